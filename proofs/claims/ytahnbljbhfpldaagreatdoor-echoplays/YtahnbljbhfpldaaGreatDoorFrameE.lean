/-
  The contracts of Put and Core.

  The document's core: the bits of a frame but its tag.

  The contracts of the document's Put and Core.

  Put, Core and Check, of the program and of the document, at any frame; awake.
-/
import Derived.Test.YtahnbljbhfpldaaGreatDoorFrameC
import Derived.Deep.DeepCutAuto
import Derived.Test.YtahnbljbhfpldaaGreatDoorFrameRCheck
namespace Go.Proofs.YtahnbljbhfpldaaGreatDoor
set_option maxRecDepth 20000
set_option maxHeartbeats 6400000
open Go.ChangeShapes Go.WideShapes Go.ChangeAt Go.RowKit
theorem exec_load {P:Program}{o:Oper}{a:Act}{w:World}(ty:TypeId)(x:Operand)(ho:o.op=.load ty x)(v r:Value)(hx:a.eval x=v)(hrun:(Instr.loadAt ty v).run P w=.ok r w):(execOp a.eval o).run P w=.ok (.value r) w:=by
 unfold execOp
 simp only[ho,hx,Sem.run_bind,hrun,Result.andThen_ok,Sem.run_pure]
theorem own_lower {w:World}{B B':Nat}{v:Value}{n:Nat}{xs:List Value}(h:w.ownsRow B 5 1 v n xs)(hB:B'<=B):w.ownsRow B' 5 1 v n xs:=by
 refine⟨h.1,?_⟩
 rcases h.2 with h0|⟨g,cap,cur,rfl,hlow,h4⟩
 ·exact .inl h0
 ·exact .inr ⟨g,cap,cur,rfl,Nat.le_trans hB hlow,h4⟩
def GivesE (w w':World)(e:Ending)(l:List UInt8):Prop:=∃ d cd r,Hid (r=l)/\e=.returned (.tuple #[.slice d r.length cd,.int .i64 0])/\Sees w' d cd r/\Below w.heap.size w w'/\w'.ownsRow w.heap.size 5 1 (.slice d r.length cd) r.length (r.map cellOf)
theorem Seen.clears {w:World}{F:Fr}{A:At}(h:Seen w F A){G:Nat->Prop}(hG:∀ k,G k->w.heap.size<=k):Clears G F A:=
 ⟨λb off e hne hg=>by have:=h.key.lt b off e hne;have:=hG b hg;omega,λb off e hne hg=>by have:=h.body.lt b off e hne;have:=hG b hg;omega,λb off e hne hg=>by have:=h.tag.lt b off e hne;have:=hG b hg;omega⟩
theorem put_yes (w:World)(F:Fr)(A:At)(hF:Seen w F A)(hn:F.n<18446744073709551616)(hr:rightB F=true):Calls Tryz.prog 122 #[.agg (frC F A)] w λe w'=>GivesE w w' e (putL F):=by
 have hN:=FrAt.new w F A
 have hb0:Below w.heap.size w (w.alloc (.cells (frC F A) 40)):=Go.Joins.below_alloc1 _ _
 have hck:=check_ok (w.alloc (.cells (frC F A) 40)) F A (hF.below hb0)
 rw[if_pos hr] at hck
 have hrc:coreB F=true:=by unfold rightB at hr;simp only[Bool.and_eq_true] at hr;exact hr.1
 have HI:Hid (InR0 F/\F.body.length<=16):=⟨(core_inr F hn hrc).1,(core_inr F hn hrc).2.1⟩
 have HB:Hid (wholeG (λ_ n _=>n) (λbs n V=>putB bs n (V:Int)) (λ_ l _=>l) (λbs l _=>bytesB bs l) [] F=(F,coreBits F++bitsOf F.tag)/\(coreBits F++bitsOf F.tag).length<=397):=wwhole_bits F hn hr
 have HF:Hid (Seen w F A):=hF
 have H0:Hid (FrAt (w.alloc (.cells (frC F A) 40)) w.heap.size F A/\Below w.heap.size w (w.alloc (.cells (frC F A) 40))):=⟨hN,hb0⟩
 have HL:Hid ((Instr.loadAt 40 (.pointer (some ⟨w.heap.size,0,none⟩))).run Tryz.prog (w.alloc (.cells (frC F A) 40))=.ok (.agg (frC F A)) (w.alloc (.cells (frC F A) 40))):=hN.loads
 clear hN hb0 hF hn hr hrc
 go_enter Tryz.func122,Tryz.ntmps122
 go_upto_region 1 with fail
 generalize w.alloc (Obj.cells (frC F A) 40)=W0 at *
 go_wp2_with (first|(refine wpList_gload_run rfl 40 _ rfl _ _ rfl HL.out ?_)|fail)
 refine hck.mono ?_
 rintro e w1 ⟨rfl,hb1⟩
 have H1:Hid (FrAt w1 w.heap.size F A/\Below w.heap.size w w1):=⟨H0.out.1.below hb1,H0.out.2.trans (hb1.mono H0.out.2.size)⟩
 have hnew:=wnew_ok w1
 clear hck HL hb1 H0
 go_wp2_with fail
 refine hnew.mono ?_
 rintro e w2 ⟨b,Fb,rfl,hRB,hb2,hFb⟩
 have hb2w:Below w.heap.size w w2:=H1.out.2.trans (hb2.mono H1.out.2.size)
 have hFw:∀ k,Fb k->w.heap.size<=k:=λk hk=>Nat.le_trans H1.out.2.size (hFb k hk)
 have H2:Hid (FrAt w2 w.heap.size F A/\WrM w2 b [] Fb/\Seen w2 F A/\Below w.heap.size w w2/\∀ k,Fb k->w.heap.size<=k):=⟨H1.out.1.below hb2,⟨hRB,by simp⟩,HF.out.below hb2w,hb2w,hFw⟩
 have HNF:Hid (¬ Fb w.heap.size):=λh=>by have:=hFb _ h;have:=H1.out.1.lt;omega
 have HCL:Hid (Clears Fb F A):=HF.out.clears hFw
 clear hnew hRB hb2 hFb hb2w hFw H1 HF
 go_wp2
 refine wp_region_noPanic ?_
 refine wp_region_held (S:=λW=>Apart Fb w2 W) (by kernel_rfl) ?_
 have hS:Apart Fb w2 w2.drew:=(Apart.refl _ _).drew
 refine tk 2 (v:=.agg (frC F A)) (hv:=λW hW=>exec_load 40 (.tmp 1) rfl (.pointer (some ⟨w.heap.size,0,none⟩)) _ rfl (H2.out.1.keep (hW.block _ H2.out.1.lt HNF.out)).loads) hS ?_
 refine tk 0 (v:=.pointer (some ⟨b,0,none⟩)) (hv:=by intro w _;go_simp) hS ?_
 clear hS
 refine any_one 1 rfl (by kernel_rfl) (by rfl) (λK hK=>?_)
 go_simp
 refine(writing_ok _ b).mono ?_
 rintro e w3 ⟨rfl,hb3⟩
 have hS3:Below w2.heap.size w2 w3:=(Below.refl _ w2).drew.trans (hb3.mono (Nat.le_refl _))
 have H3:Hid (Below w2.heap.size w2 w3):=hS3
 refine hK.out _ _ (Apart.of_below hS3) (λ_=>?_)
 clear hK hb3 hS3
 (try simp only[Act.put,sT])
 have hc:=hwhole_ok (hand_wr b) w3 [] Fb F A (wrm_kept.below H2.out.2.1 H3.out) (H2.out.2.2.1.below H3.out) HCL.out HI.out.1 HI.out.2
 rw[HB.out.1] at hc
 have HC:Hid (Calls Tryz.prog 53 #[.agg #[.func (.func 163) #[wrV b] #[],.func (.func 164) #[wrV b] #[]],.agg (frC F A)] w3 λe w'=>Leaves WrM b w3 Fb (F,coreBits F++bitsOf F.tag) e w'):=hc
 clear hc
 refine any_one 3 rfl (by kernel_rfl) (by rfl) (λK hK=>?_)
 go_simp
 refine HC.out.mono ?_
 rintro e w4 ⟨A4,F4,rfl,hM4,hap4,hsub4,_,_,_⟩
 have hb3w:Below w.heap.size w w3:=H2.out.2.2.2.1.trans (H3.out.mono H2.out.2.2.2.1.size)
 have hb4:Below w.heap.size w w4:=hap4.below hb3w H2.out.2.2.2.2 hb3w.size
 have H4:Hid (WrM w4 b (coreBits F++bitsOf F.tag) F4/\Below w.heap.size w w4):=⟨hM4,hb4⟩
 refine hK.out _ _ ((Apart.of_below H3.out).trans hap4 (λ_ h=>.inl h)) (λ_=>?_)
 clear hK HC hM4 hap4 hsub4 hb4 hb3w H3 H2
 refine wpAnyH_done (by kernel_rfl) ?_ _
 refine NoPanic.normal ?_
 have hd:=wdone_ok w4 b _ F4 H4.out.1.1 H4.out.1.2
 go_wp2_with fail
 refine hd.mono ?_
 rintro e w5 ⟨d5,c5,r5,hr5,rfl,hs5,hb5⟩
 have hlen:r5.length<=50:=by
  rw[hr5.out,packL_length];have:=HB.out.2;omega
 have hfx:=fix_ok w5 d5 c5 r5 hs5 (by omega)
 have H5:Hid (Below w.heap.size w w5/\putL F=fixL r5):=⟨H4.out.2.trans (hb5.mono H4.out.2.size),by unfold putL;rw[hr5.out]⟩
 clear hd hr5 hs5 hb5 H4 hlen
 go_wp2_with fail
 refine hfx.mono ?_
 rintro e w6 ⟨d6,c6,r6,hr6,rfl,hs6,hb6,hown⟩
 have HE:Hid (Hid (r6=putL F)/\Sees w6 d6 c6 r6/\Below w.heap.size w w6/\w6.ownsRow w.heap.size 5 1 (.slice d6 r6.length c6) r6.length (r6.map cellOf)):=
  ⟨by rw[H5.out.2];exact hr6,hs6,H5.out.1.trans (hb6.mono H5.out.1.size),own_lower hown H5.out.1.size⟩
 clear hfx hr6 hs6 hb6 hown H5
 go_wp2
 go_ret2
 exact⟨d6,c6,r6,HE.out.1,rfl,HE.out.2⟩
theorem core_yes (w:World)(F:Fr)(A:At)(hF:Seen w F A)(hn:F.n<18446744073709551616)(hr:coreB F=true):Calls Tryz.prog 130 #[.agg (frC F A)] w λe w'=>∃ d cd r,Hid (r=coreL F)/\e=.returned (.tuple #[.slice d r.length cd,.int .i64 0])/\Sees w' d cd r/\Below w.heap.size w w':=by
 have hN:=FrAt.new w F A
 have hb0:Below w.heap.size w (w.alloc (.cells (frC F A) 40)):=Go.Joins.below_alloc1 _ _
 have hck:=rcore_ok (w.alloc (.cells (frC F A) 40)) F A (hF.below hb0)
 rw[hr] at hck
 have hrc:=hr
 have HI:Hid (InR0 F/\F.body.length<=16):=⟨(core_inr F hn hrc).1,(core_inr F hn hrc).2.1⟩
 have HB:Hid (coreG (λ_ n _=>n) (λbs n V=>putB bs n (V:Int)) (λ_ l _=>l) (λbs l _=>bytesB bs l) [] F=(F,coreBits F)/\(coreBits F).length<=333):=wcore_bits F hn hr
 have HF:Hid (Seen w F A):=hF
 have H0:Hid (FrAt (w.alloc (.cells (frC F A) 40)) w.heap.size F A/\Below w.heap.size w (w.alloc (.cells (frC F A) 40))):=⟨hN,hb0⟩
 have HL:Hid ((Instr.loadAt 40 (.pointer (some ⟨w.heap.size,0,none⟩))).run Tryz.prog (w.alloc (.cells (frC F A) 40))=.ok (.agg (frC F A)) (w.alloc (.cells (frC F A) 40))):=hN.loads
 clear hN hb0 hF hn hr hrc
 go_enter Tryz.func130,Tryz.ntmps130
 go_upto_region 1 with fail
 generalize w.alloc (Obj.cells (frC F A) 40)=W0 at *
 go_wp2_with (first|(refine wpList_gload_run rfl 40 _ rfl _ _ rfl HL.out ?_)|fail)
 refine hck.mono ?_
 rintro e w1 ⟨rfl,hb1⟩
 have H1:Hid (FrAt w1 w.heap.size F A/\Below w.heap.size w w1):=⟨H0.out.1.below hb1,H0.out.2.trans (hb1.mono H0.out.2.size)⟩
 have hnew:=wnew_ok w1
 clear hck HL hb1 H0
 go_wp2_with fail
 refine hnew.mono ?_
 rintro e w2 ⟨b,Fb,rfl,hRB,hb2,hFb⟩
 have hb2w:Below w.heap.size w w2:=H1.out.2.trans (hb2.mono H1.out.2.size)
 have hFw:∀ k,Fb k->w.heap.size<=k:=λk hk=>Nat.le_trans H1.out.2.size (hFb k hk)
 have H2:Hid (FrAt w2 w.heap.size F A/\WrM w2 b [] Fb/\Seen w2 F A/\Below w.heap.size w w2/\∀ k,Fb k->w.heap.size<=k):=⟨H1.out.1.below hb2,⟨hRB,by simp⟩,HF.out.below hb2w,hb2w,hFw⟩
 have HNF:Hid (¬ Fb w.heap.size):=λh=>by have:=hFb _ h;have:=H1.out.1.lt;omega
 have HCL:Hid (Clears Fb F A):=HF.out.clears hFw
 clear hnew hRB hb2 hFb hb2w hFw H1 HF
 go_wp2
 refine wp_region_noPanic ?_
 refine wp_region_held (S:=λW=>Apart Fb w2 W) (by kernel_rfl) ?_
 have hS:Apart Fb w2 w2.drew:=(Apart.refl _ _).drew
 refine tk 2 (v:=.agg (frC F A)) (hv:=λW hW=>exec_load 40 (.tmp 1) rfl (.pointer (some ⟨w.heap.size,0,none⟩)) _ rfl (H2.out.1.keep (hW.block _ H2.out.1.lt HNF.out)).loads) hS ?_
 refine tk 0 (v:=.pointer (some ⟨b,0,none⟩)) (hv:=by intro w _;go_simp) hS ?_
 clear hS
 refine any_one 1 rfl (by kernel_rfl) (by rfl) (λK hK=>?_)
 go_simp
 refine(writing_ok _ b).mono ?_
 rintro e w3 ⟨rfl,hb3⟩
 have hS3:Below w2.heap.size w2 w3:=(Below.refl _ w2).drew.trans (hb3.mono (Nat.le_refl _))
 have H3:Hid (Below w2.heap.size w2 w3):=hS3
 refine hK.out _ _ (Apart.of_below hS3) (λ_=>?_)
 clear hK hb3 hS3
 (try simp only[Act.put,sT])
 have hc:=core_ok (hand_wr b) w3 [] Fb F A (wrm_kept.below H2.out.2.1 H3.out) (H2.out.2.2.1.below H3.out) HCL.out HI.out.1 HI.out.2
 rw[HB.out.1] at hc
 have HC:Hid (Calls Tryz.prog 83 #[.agg #[.func (.func 163) #[wrV b] #[],.func (.func 164) #[wrV b] #[]],.agg (frC F A)] w3 λe w'=>Leaves WrM b w3 Fb (F,coreBits F) e w'):=hc
 clear hc
 refine any_one 3 rfl (by kernel_rfl) (by rfl) (λK hK=>?_)
 go_simp
 refine HC.out.mono ?_
 rintro e w4 ⟨A4,F4,rfl,hM4,hap4,hsub4,_,_,_⟩
 have hb3w:Below w.heap.size w w3:=H2.out.2.2.2.1.trans (H3.out.mono H2.out.2.2.2.1.size)
 have hb4:Below w.heap.size w w4:=hap4.below hb3w H2.out.2.2.2.2 hb3w.size
 have H4:Hid (WrM w4 b (coreBits F) F4/\Below w.heap.size w w4):=⟨hM4,hb4⟩
 refine hK.out _ _ ((Apart.of_below H3.out).trans hap4 (λ_ h=>.inl h)) (λ_=>?_)
 clear hK HC hM4 hap4 hsub4 hb4 hb3w H3 H2
 refine wpAnyH_done (by kernel_rfl) ?_ _
 refine NoPanic.normal ?_
 have hd:=wdone_ok w4 b _ F4 H4.out.1.1 H4.out.1.2
 go_wp2_with fail
 refine hd.mono ?_
 rintro e w5 ⟨d5,c5,r5,hr5,rfl,hs5,hb5⟩
 have HE:Hid (Hid (r5=coreL F)/\Sees w5 d5 c5 r5/\Below w.heap.size w w5):=⟨hr5,hs5,H4.out.2.trans (hb5.mono H4.out.2.size)⟩
 clear hd hr5 hs5 hb5 H4
 go_wp2
 go_ret2
 exact⟨d5,c5,r5,HE.out.1,rfl,HE.out.2⟩
theorem core_no (w:World)(F:Fr)(A:At)(hF:Seen w F A)(hr:coreB F=false):Calls Tryz.prog 130 #[.agg (frC F A)] w λe w'=>e=.returned (.tuple #[.slice none 0 0,.int .i64 1])/\Below w.heap.size w w':=by
 have hN:=FrAt.new w F A
 have hb0:Below w.heap.size w (w.alloc (.cells (frC F A) 40)):=Go.Joins.below_alloc1 _ _
 have hck:=rcore_ok (w.alloc (.cells (frC F A) 40)) F A (hF.below hb0)
 rw[hr] at hck
 have H0:Hid (Below w.heap.size w (w.alloc (.cells (frC F A) 40))):=hb0
 have HL:Hid ((Instr.loadAt 40 (.pointer (some ⟨w.heap.size,0,none⟩))).run Tryz.prog (w.alloc (.cells (frC F A) 40))=.ok (.agg (frC F A)) (w.alloc (.cells (frC F A) 40))):=hN.loads
 clear hN hb0 hF hr
 go_enter Tryz.func130,Tryz.ntmps130
 go_upto_region 1 with fail
 generalize w.alloc (Obj.cells (frC F A) 40)=W0 at *
 go_wp2_with (first|(refine wpList_gload_run rfl 40 _ rfl _ _ rfl HL.out ?_)|fail)
 refine hck.mono ?_
 rintro e w1 ⟨rfl,hb1⟩
 have HE:Hid (Below w.heap.size w w1):=H0.out.trans (hb1.mono H0.out.size)
 clear hck HL hb1 H0
 go_wp2
 go_ret2
 exact⟨rfl,HE.out⟩
theorem Seen.clearsB {w:World}{F:Fr}{A:At}(h:Seen w F A){G:Nat->Prop}(hG:∀ k,G k->w.heap.size<=k):Clears G F A:=
 ⟨λb off e hne hg=>by have:=h.key.lt b off e hne;have:=hG b hg;omega,λb off e hne hg=>by have:=h.body.lt b off e hne;have:=hG b hg;omega,λb off e hne hg=>by have:=h.tag.lt b off e hne;have:=hG b hg;omega⟩
structure RMid (w:World)(g:Nat)(F:Fr)(A:At)(bs:List Bool)(G:Nat->Prop)(W:World):Prop where
 fr:FrAt W w.heap.size F A
 obj:RW W g bs G
 above:∀ k,G k->w.heap.size<k
 seen:Seen W F A
 bel:Below w.heap.size w W
theorem RMid.step {w:World}{g:Nat}{F:Fr}{A:At}{bs bs':List Bool}{G:Nat->Prop}{W W1:World}(h:RMid w g F A bs G W)(hS:Seen w F A)(hL:Left RW W G g bs' W1):∃ G1,RMid w g F A bs' G1 W1:=by
 obtain⟨G1,h1,h2,h3⟩:=hL
 have hlt:=h.fr.lt
 have hb:Below w.heap.size w W1:=h2.below h.bel (λk hk=>Nat.le_of_lt (h.above k hk)) h.bel.size
 refine⟨G1,h.fr.keep (h2.block _ hlt (λhg=>by have:=h.above _ hg;omega)),h1,λk hk=>?_,hS.below hb,hb⟩
 rcases h3 k hk with h4|h4
 ·exact h.above k h4
 ·omega
theorem RMid.clears {w:World}{g:Nat}{F:Fr}{A:At}{bs:List Bool}{G:Nat->Prop}{W:World}(h:RMid w g F A bs G W)(hS:Seen w F A):Clears G F A:=
 hS.clearsB λk hk=>Nat.le_of_lt (h.above k hk)
theorem rput_fits (w:World)(g:Nat)(bs:List Bool)(G:Nat->Prop)(h:RW w g bs G)(n:Int)(V:Nat)(h0:0<=n)(hV:V<=64)(hn:n<2^V)(hl:bs.length+V<=8192):
  Calls Tryz.prog 126 #[.pointer (some ⟨g,0,none⟩),.int .u64 n,.int .i64 (V:Int)] w λe w'=>e=.returned (.int .i64 0)/\Left RW w G g (bs++bitsN n.toNat V) w':=by
 obtain⟨m,rfl⟩:∃ m:Nat,n=m:=⟨n.toNat,by omega⟩
 rw[Int.toNat_natCast]
 exact rput_ok w g bs G h m V hV (by have : ((m : Nat) : Int) < ((2 ^ V : Nat) : Int) := by push_cast; exact hn
                                     omega) hl
theorem rbytes_fits (w:World)(g:Nat)(bs:List Bool)(G:Nat->Prop)(h:RW w g bs G)(x:Option Addr)(cx:Nat)(l:List UInt8)(hx:Sees w x cx l)(hc:Clear G x l)(h1:l.length<=1024)(hl:bs.length+8*l.length<=8192):
  Calls Tryz.prog 98 #[.pointer (some ⟨g,0,none⟩),.slice x l.length cx] w λe w'=>e=.returned (.int .i64 0)/\Left RW w G g (bs++bitsOf l) w':=by
 have hc:=rbytes_any w g bs G h x cx l hx hc (by omega)
 have h0:bytesP bs.length l.length=0:=by unfold bytesP;rw[if_neg (by omega)]
 rw[h0,bytesB_fits bs l h1 hl] at hc
 exact hc
theorem rkey_ok (w:World)(g:Nat)(F:Fr)(A:At)(bs:List Bool)(G:Nat->Prop)(hW:RW w g bs G)(hS:Seen w F A)(hcl:Clears G F A)(hi:0<=F.i/\F.i<=256)(hk:F.key.length=16)(hl:bs.length<=1000):
  Calls Tryz.prog 127 #[.pointer (some ⟨g,0,none⟩),.agg (frC F A)] w λe w'=>(∃ r,e=.returned r)/\Left RW w G g (bs++bitsN F.i.toNat 16++bitsOf F.key) w':=by
 obtain⟨W0,hW0⟩:∃ W0,W0=w.alloc (.cells (frC F A) 40):=⟨_,rfl⟩
 have hN:=FrAt.new w F A
 rw[<-hW0] at hN
 have hb0:Below w.heap.size w W0:=by rw[hW0];exact Go.Joins.below_alloc1 _ _
 have c9:=hN.c9
 have hw0:IntKind.u64.wrap F.i=F.i:=by rw[IntKind.wrap_u64];omega
 have hp:=rput_fits W0 g bs G (rw_kept.below hW hb0) F.i 16 hi.1 (by omega) (by omega) (by omega)
 have hfr:¬ G w.heap.size:=λh=>by have:=rw_kept.lt hW _ h;omega
 have H:Hid (∀ w1,Left RW W0 G g (bs++bitsN F.i.toNat 16) w1->w1.cell? ⟨w.heap.size,10,none⟩=some (.slice A.ka F.key.length A.kc)/\Calls Tryz.prog 98 #[.pointer (some ⟨g,0,none⟩),.slice A.ka F.key.length A.kc] w1 λe w'=>e=.returned (.int .i64 0)/\Left RW w G g (bs++bitsN F.i.toNat 16++bitsOf F.key) w'):=λw1 hL=>by
  obtain⟨G1,h1,h2,h3⟩:=hL
  have hs1:Sees w1 A.ka A.kc F.key:=h2.sees (hS.key.below hb0) hcl.key
  refine⟨(hN.keep (h2.block _ hN.lt hfr)).c10,?_⟩
  refine(rbytes_fits w1 g _ G1 h1 A.ka A.kc F.key hs1 ?_ (by omega) ?_).mono ?_
  ·intro b off e hne hg
   rcases h3 b hg with h4|h4
   ·exact hcl.key b off e hne h4
   ·have:=hS.key.lt b off e hne;have:=hb0.size;omega
  ·rw[List.length_append,bitsN_length];omega
  ·rintro e w2 ⟨he,G2,k1,k2,k3⟩
   refine⟨he,G2,k1,?_,λk hk=>?_⟩
   ·exact((Apart.of_below hb0).trans (h2.trans k2 h3) (λ_ h=>.inl h))
   ·rcases k3 k hk with h4|h4
    ·rcases h3 k h4 with h5|h5
     ·exact .inl h5
     ·right;have:=hb0.size;omega
    ·right;have:=hb0.size;have:=h2.size;omega
 clear hN hfr hW hS hcl hi hk hl hb0
 subst hW0
 go_enter Tryz.func127,Tryz.ntmps127
 go_wp2_with fail
 refine hp.mono ?_
 rintro e w1 ⟨rfl,hL⟩
 obtain⟨c10,hc⟩:=H.out w1 hL
 clear hp hL H c9
 go_wp2_with fail
 refine hc.mono ?_
 rintro e w2 ⟨rfl,hL2⟩
 have HE:Hid (Left RW w G g (bs++bitsN F.i.toNat 16++bitsOf F.key) w2):=hL2
 clear hc hL2 c10
 go_wp2
 go_end0
 exact⟨⟨_,rfl⟩,HE.out⟩
structure InS (F:Fr):Prop where
 k:0<=F.k/\F.k<=3
 f:0<=F.f/\F.f<=7
 t:0<=F.t/\F.t<=7
 e:0<=F.e/\F.e<=65535
 s:0<=F.s/\F.s<=1048576
 r:0<=F.r/\F.r<=1048576
 m:0<=F.m/\F.m<=1099511627776
 v:0<=F.v/\F.v<=255
 i:0<=F.i/\F.i<=256
theorem core_ins (F:Fr)(hn:F.n<18446744073709551616)(hr:coreB F=true):InS F:=by
 obtain⟨_,_,hk,_⟩:=core_inr F hn hr
 unfold coreB at hr
 simp only[Bool.and_eq_true,decide_eq_true_eq] at hr
 obtain⟨hf,ht,he,hs,hrr,hm,hv,hi⟩:=(numsB_iff F).1 hr.1.1
 exact⟨by omega,hf,ht,he,hs,hrr,hm,hv,hi⟩
theorem rcore_laid (w:World)(F:Fr)(A:At)(hS:Seen w F A):RMid w (w.heap.size+1) F A [] (λk=>k=w.heap.size+1) ((w.alloc (.cells (frC F A) 40)).alloc (.cells #[.slice none 0 0] 179)):=by
 have hb:Below w.heap.size w ((w.alloc (.cells (frC F A) 40)).alloc (.cells #[.slice none 0 0] 179)):=Go.Joins.below_alloc2 _ _ _
 refine⟨(FrAt.new w F A).alloc _,⟨.slice none 0 0,?_,⟨rfl,.inl ⟨rfl,rfl⟩⟩,rfl,(λk hk=>by simp[Value.ownBlock] at hk),λk hk=>by rw[hk];simp⟩,λk hk=>by omega,hS.below hb,hb⟩
 have:=heap_alloc_new (w.alloc (.cells (frC F A) 40)) (.cells #[.slice none 0 0] 179)
 simpa using this
theorem rbits_ok (w:World)(F:Fr)(A:At)(hS:Seen w F A)(hn:F.n<18446744073709551616)(hr:coreB F=true):
  Calls Tryz.prog 97 #[.agg (frC F A)] w λe w'=>∃ g G,e=.returned (.pointer (some ⟨g,0,none⟩))/\RW w' g (coreBits F) G/\(∀ k,G k->w.heap.size<=k)/\Below w.heap.size w w':=by
 obtain⟨_,hB,hk3,hky⟩:=core_inr F hn hr
 have HI:Hid (InS F):=core_ins F hn hr
 have HN:Hid (F.n<18446744073709551616):=hn
 have HBL:Hid (F.body.length<=16):=hB
 have HS:Hid (Seen w F A):=hS
 have hM:=rcore_laid w F A hS
 have HL0:Hid (([]:List Bool).length<=0):=Nat.le_refl 0
 have HKY:Hid (F.k=1\/F.k=3->F.key.length=16):=hky
 have hcb:coreBits F=bitsN F.k.toNat 4++bitsN F.f.toNat 4++kindBits F:=rfl
 obtain⟨g,hg⟩:∃ g,g=w.heap.size+1:=⟨_,rfl⟩
 have HM0:Hid (RMid w (w.heap.size+1) F A [] (λk=>k=w.heap.size+1) ((w.alloc (.cells (frC F A) 40)).alloc (.cells #[.slice none 0 0] 179))):=hM
 clear hB hn hS hM hr hky hg
 clear g
 go_enter Tryz.func97,Tryz.ntmps97
 go_upto_region 2 with fail
 generalize (w.alloc (Obj.cells (frC F A) 40)).alloc (Obj.cells #[Value.slice none 0 0] 179)=X0 at *
 generalize (λk=>k=w.heap.size+1)=G0 at *
 obtain⟨B0,hB0⟩:∃ B:List Bool,B=[]:=⟨_,rfl⟩
 rw[<-hB0] at HM0 HL0
 have EB0:Hid (B0=[]):=hB0
 clear hB0
 have hp:=rput_fits X0 (w.heap.size+1) B0 G0 HM0.out.obj F.k 4 HI.out.k.1 (by omega) (by have:=HI.out.k;omega) (by have:=HL0.out;omega)
 have hw0:IntKind.u64.wrap F.k=F.k:=by rw[IntKind.wrap_u64];have:=HI.out.k;omega
 have cc:=HM0.out.fr.c0
 go_wp2_with fail
 refine hp.mono ?_
 rintro e X1 ⟨rfl,hL⟩
 obtain⟨B1,eB1⟩:∃ B,B=B0++bitsN F.k.toNat 4:=⟨_,rfl⟩
 rw[<-eB1] at hL
 obtain⟨G1,hM⟩:=HM0.out.step HS.out hL
 have HM1:Hid (RMid w (w.heap.size+1) F A B1 G1 X1):=hM
 have HL1:Hid (B1.length<=4):=by have:=HL0.out;show _<=_;rw[eB1,List.length_append,bitsN_length];omega
 have EB1:Hid (B1=B0++bitsN F.k.toNat 4):=eB1
 clear hp hL hM cc eB1 hw0
 have hp:=rput_fits X1 (w.heap.size+1) B1 G1 HM1.out.obj F.f 4 HI.out.f.1 (by omega) (by have:=HI.out.f;omega) (by have:=HL1.out;omega)
 have hw0:IntKind.u64.wrap F.f=F.f:=by rw[IntKind.wrap_u64];have:=HI.out.f;omega
 have cc:=HM1.out.fr.c1
 go_wp2_with fail
 refine hp.mono ?_
 rintro e X2 ⟨rfl,hL⟩
 obtain⟨B2,eB2⟩:∃ B,B=B1++bitsN F.f.toNat 4:=⟨_,rfl⟩
 rw[<-eB2] at hL
 obtain⟨G2,hM⟩:=HM1.out.step HS.out hL
 have HM2:Hid (RMid w (w.heap.size+1) F A B2 G2 X2):=hM
 have HL2:Hid (B2.length<=8):=by have:=HL1.out;show _<=_;rw[eB2,List.length_append,bitsN_length];omega
 have EB2:Hid (B2=B1++bitsN F.f.toNat 4):=eB2
 clear hp hL hM cc eB2 hw0
 have c0:=HM2.out.fr.c0
 by_cases k1:F.k=1
 ·have g1:(F.k==1)=true:=by simp[k1]
  have HKL:Hid (F.key.length=16):=HKY.out (.inl k1)
  have K1:Hid (F.k=1):=k1
  clear k1 hk3
  have hp:=rput_fits X2 (w.heap.size+1) B2 G2 HM2.out.obj F.e 16 HI.out.e.1 (by omega) (by have:=HI.out.e;omega) (by have:=HL2.out;omega)
  have hw0:IntKind.u64.wrap F.e=F.e:=by rw[IntKind.wrap_u64];have:=HI.out.e;omega
  have cc:=HM2.out.fr.c3
  go_wp2_with fail
  refine hp.mono ?_
  rintro e X3 ⟨rfl,hL⟩
  obtain⟨B3,eB3⟩:∃ B,B=B2++bitsN F.e.toNat 16:=⟨_,rfl⟩
  rw[<-eB3] at hL
  obtain⟨G3,hM⟩:=HM2.out.step HS.out hL
  have HM3:Hid (RMid w (w.heap.size+1) F A B3 G3 X3):=hM
  have HL3:Hid (B3.length<=24):=by have:=HL2.out;show _<=_;rw[eB3,List.length_append,bitsN_length];omega
  have EB3:Hid (B3=B2++bitsN F.e.toNat 16):=eB3
  clear hp hL hM cc eB3 hw0
  have hp:=rput_fits X3 (w.heap.size+1) B3 G3 HM3.out.obj F.r 24 HI.out.r.1 (by omega) (by have:=HI.out.r;omega) (by have:=HL3.out;omega)
  have hw0:IntKind.u64.wrap F.r=F.r:=by rw[IntKind.wrap_u64];have:=HI.out.r;omega
  have cc:=HM3.out.fr.c5
  go_wp2_with fail
  refine hp.mono ?_
  rintro e X4 ⟨rfl,hL⟩
  obtain⟨B4,eB4⟩:∃ B,B=B3++bitsN F.r.toNat 24:=⟨_,rfl⟩
  rw[<-eB4] at hL
  obtain⟨G4,hM⟩:=HM3.out.step HS.out hL
  have HM4:Hid (RMid w (w.heap.size+1) F A B4 G4 X4):=hM
  have HL4:Hid (B4.length<=48):=by have:=HL3.out;show _<=_;rw[eB4,List.length_append,bitsN_length];omega
  have EB4:Hid (B4=B3++bitsN F.r.toNat 24):=eB4
  clear hp hL hM cc eB4 hw0
  have hp:=rput_fits X4 (w.heap.size+1) B4 G4 HM4.out.obj F.v 8 HI.out.v.1 (by omega) (by have:=HI.out.v;omega) (by have:=HL4.out;omega)
  have hw0:IntKind.u64.wrap F.v=F.v:=by rw[IntKind.wrap_u64];have:=HI.out.v;omega
  have cc:=HM4.out.fr.c8
  go_wp2_with fail
  refine hp.mono ?_
  rintro e X5 ⟨rfl,hL⟩
  obtain⟨B5,eB5⟩:∃ B,B=B4++bitsN F.v.toNat 8:=⟨_,rfl⟩
  rw[<-eB5] at hL
  obtain⟨G5,hM⟩:=HM4.out.step HS.out hL
  have HM5:Hid (RMid w (w.heap.size+1) F A B5 G5 X5):=hM
  have HL5:Hid (B5.length<=56):=by have:=HL4.out;show _<=_;rw[eB5,List.length_append,bitsN_length];omega
  have EB5:Hid (B5=B4++bitsN F.v.toNat 8):=eB5
  clear hp hL hM cc eB5 hw0
  have hp:=rkey_ok X5 (w.heap.size+1) F A B5 G5 HM5.out.obj HM5.out.seen (HM5.out.clears HS.out) HI.out.i HKL.out (by have:=HL5.out;omega)
  have HLD:Hid ((Instr.loadAt 40 (.pointer (some ⟨w.heap.size,0,none⟩))).run Tryz.prog X5=.ok (.agg (frC F A)) X5):=HM5.out.fr.loads
  go_wp2_with (first|(refine wpList_gload_run rfl 40 _ rfl _ _ rfl HLD.out ?_)|fail)
  refine hp.mono ?_
  rintro e X6 ⟨⟨r6,rfl⟩,hL⟩
  obtain⟨B6,eB6⟩:∃ B,B=B5++bitsN F.i.toNat 16++bitsOf F.key:=⟨_,rfl⟩
  rw[<-eB6] at hL
  obtain⟨G6,hM⟩:=HM5.out.step HS.out hL
  have HM6:Hid (RMid w (w.heap.size+1) F A B6 G6 X6):=hM
  have HL6:Hid (B6.length<=200):=by have:=HL5.out;have:=HKL.out;show _<=_;rw[eB6,List.length_append,List.length_append,bitsN_length,bitsOf_length];omega
  have EB6:Hid (B6=B5++bitsN F.i.toNat 16++bitsOf F.key):=eB6
  clear hp hL hM eB6 HLD
  have hp:=rput_fits X6 (w.heap.size+1) B6 G6 HM6.out.obj ((F.body.length:Nat):Int) 5 (Int.natCast_nonneg _) (by omega) (by have:=HBL.out;omega) (by have:=HL6.out;omega)
  rw[Int.toNat_natCast] at hp
  have hw0:IntKind.u64.wrap ((F.body.length:Nat):Int)=((F.body.length:Nat):Int):=by rw[IntKind.wrap_u64];have:=HBL.out;omega
  have cc:=HM6.out.fr.c11
  go_wp2_with fail
  refine hp.mono ?_
  rintro e X7 ⟨rfl,hL⟩
  obtain⟨B7,eB7⟩:∃ B,B=B6++bitsN F.body.length 5:=⟨_,rfl⟩
  rw[<-eB7] at hL
  obtain⟨G7,hM⟩:=HM6.out.step HS.out hL
  have HM7:Hid (RMid w (w.heap.size+1) F A B7 G7 X7):=hM
  have HL7:Hid (B7.length<=205):=by have:=HL6.out;show _<=_;rw[eB7,List.length_append,bitsN_length];omega
  have EB7:Hid (B7=B6++bitsN F.body.length 5):=eB7
  clear hp hL hM cc eB7 hw0
  have hp:=rbytes_fits X7 (w.heap.size+1) B7 G7 HM7.out.obj A.ba A.bc F.body HM7.out.seen.body (HM7.out.clears HS.out).body (by have:=HBL.out;omega) (by have:=HBL.out;have:=HL7.out;omega)
  have cc:=HM7.out.fr.c11
  go_wp2_with fail
  refine hp.mono ?_
  rintro e X8 ⟨rfl,hL⟩
  obtain⟨B8,eB8⟩:∃ B,B=B7++bitsOf F.body:=⟨_,rfl⟩
  rw[<-eB8] at hL
  obtain⟨G8,hM⟩:=HM7.out.step HS.out hL
  have HM8:Hid (RMid w (w.heap.size+1) F A B8 G8 X8):=hM
  have EB8:Hid (B8=B7++bitsOf F.body):=eB8
  clear hp hL hM cc eB8
  have hE:B8=coreBits F:=by
   rw[hcb]
   unfold kindBits
   rw[if_pos K1.out]
   unfold dataBits
   rw[EB8.out,EB7.out,EB6.out,EB5.out,EB4.out,EB3.out,EB2.out,EB1.out,EB0.out]
   simp only[List.append_assoc,List.nil_append]
  have HE:Hid (RW X8 (w.heap.size+1) (coreBits F) G8/\(∀ k,G8 k->w.heap.size<=k)/\Below w.heap.size w X8):=⟨by rw[<-hE];exact HM8.out.obj,λk hk=>Nat.le_of_lt (HM8.out.above k hk),HM8.out.bel⟩
  clear hE
  go_wp2
  go_ret
  exact⟨_,G8,rfl,HE.out⟩
 ·have g1:(F.k==1)=false:=by simp[k1]
  by_cases k2:F.k=2
  ·have g2:(F.k==2)=true:=by simp[k2]
   have K1:Hid (¬ F.k=1):=k1
   have K2:Hid (F.k=2):=k2
   clear k1 k2 hk3
   have hp:=rput_fits X2 (w.heap.size+1) B2 G2 HM2.out.obj F.t 4 HI.out.t.1 (by omega) (by have:=HI.out.t;omega) (by have:=HL2.out;omega)
   have hw0:IntKind.u64.wrap F.t=F.t:=by rw[IntKind.wrap_u64];have:=HI.out.t;omega
   have cc:=HM2.out.fr.c2
   go_wp2_with fail
   refine hp.mono ?_
   rintro e X3 ⟨rfl,hL⟩
   obtain⟨B3,eB3⟩:∃ B,B=B2++bitsN F.t.toNat 4:=⟨_,rfl⟩
   rw[<-eB3] at hL
   obtain⟨G3,hM⟩:=HM2.out.step HS.out hL
   have HM3:Hid (RMid w (w.heap.size+1) F A B3 G3 X3):=hM
   have HL3:Hid (B3.length<=12):=by have:=HL2.out;show _<=_;rw[eB3,List.length_append,bitsN_length];omega
   have EB3:Hid (B3=B2++bitsN F.t.toNat 4):=eB3
   clear hp hL hM cc eB3 hw0
   have hp:=rput_fits X3 (w.heap.size+1) B3 G3 HM3.out.obj ((F.n:Nat):Int) 64 (Int.natCast_nonneg _) (by omega) (by have:=HN.out;omega) (by have:=HL3.out;omega)
   rw[Int.toNat_natCast] at hp
   have cc:=HM3.out.fr.c6
   go_wp2_with fail
   refine hp.mono ?_
   rintro e X4 ⟨rfl,hL⟩
   obtain⟨B4,eB4⟩:∃ B,B=B3++bitsN F.n 64:=⟨_,rfl⟩
   rw[<-eB4] at hL
   obtain⟨G4,hM⟩:=HM3.out.step HS.out hL
   have HM4:Hid (RMid w (w.heap.size+1) F A B4 G4 X4):=hM
   have HL4:Hid (B4.length<=76):=by have:=HL3.out;show _<=_;rw[eB4,List.length_append,bitsN_length];omega
   have EB4:Hid (B4=B3++bitsN F.n 64):=eB4
   clear hp hL hM cc eB4
   have hE:B4=coreBits F:=by
    rw[hcb]
    unfold kindBits
    rw[if_neg K1.out,if_pos K2.out]
    unfold pingBits
    rw[EB4.out,EB3.out,EB2.out,EB1.out,EB0.out]
    simp only[List.append_assoc,List.nil_append]
   have HE:Hid (RW X4 (w.heap.size+1) (coreBits F) G4/\(∀ k,G4 k->w.heap.size<=k)/\Below w.heap.size w X4):=⟨by rw[<-hE];exact HM4.out.obj,λk hk=>Nat.le_of_lt (HM4.out.above k hk),HM4.out.bel⟩
   clear hE
   go_wp2
   go_ret
   exact⟨_,G4,rfl,HE.out⟩
  ·have g2:(F.k==2)=false:=by simp[k2]
   have HKL:Hid (F.key.length=16):=HKY.out (.inr (by omega))
   have K1:Hid (¬ F.k=1):=k1
   have K2:Hid (¬ F.k=2):=k2
   clear k1 k2 hk3
   have hp:=rput_fits X2 (w.heap.size+1) B2 G2 HM2.out.obj F.t 4 HI.out.t.1 (by omega) (by have:=HI.out.t;omega) (by have:=HL2.out;omega)
   have hw0:IntKind.u64.wrap F.t=F.t:=by rw[IntKind.wrap_u64];have:=HI.out.t;omega
   have cc:=HM2.out.fr.c2
   go_wp2_with fail
   refine hp.mono ?_
   rintro e X3 ⟨rfl,hL⟩
   obtain⟨B3,eB3⟩:∃ B,B=B2++bitsN F.t.toNat 4:=⟨_,rfl⟩
   rw[<-eB3] at hL
   obtain⟨G3,hM⟩:=HM2.out.step HS.out hL
   have HM3:Hid (RMid w (w.heap.size+1) F A B3 G3 X3):=hM
   have HL3:Hid (B3.length<=12):=by have:=HL2.out;show _<=_;rw[eB3,List.length_append,bitsN_length];omega
   have EB3:Hid (B3=B2++bitsN F.t.toNat 4):=eB3
   clear hp hL hM cc eB3 hw0
   have hp:=rput_fits X3 (w.heap.size+1) B3 G3 HM3.out.obj ((F.n:Nat):Int) 64 (Int.natCast_nonneg _) (by omega) (by have:=HN.out;omega) (by have:=HL3.out;omega)
   rw[Int.toNat_natCast] at hp
   have cc:=HM3.out.fr.c6
   go_wp2_with fail
   refine hp.mono ?_
   rintro e X4 ⟨rfl,hL⟩
   obtain⟨B4,eB4⟩:∃ B,B=B3++bitsN F.n 64:=⟨_,rfl⟩
   rw[<-eB4] at hL
   obtain⟨G4,hM⟩:=HM3.out.step HS.out hL
   have HM4:Hid (RMid w (w.heap.size+1) F A B4 G4 X4):=hM
   have HL4:Hid (B4.length<=76):=by have:=HL3.out;show _<=_;rw[eB4,List.length_append,bitsN_length];omega
   have EB4:Hid (B4=B3++bitsN F.n 64):=eB4
   clear hp hL hM cc eB4
   have hp:=rput_fits X4 (w.heap.size+1) B4 G4 HM4.out.obj F.m 48 HI.out.m.1 (by omega) (by have:=HI.out.m;omega) (by have:=HL4.out;omega)
   have hw0:IntKind.u64.wrap F.m=F.m:=by rw[IntKind.wrap_u64];have:=HI.out.m;omega
   have cc:=HM4.out.fr.c7
   go_wp2_with fail
   refine hp.mono ?_
   rintro e X5 ⟨rfl,hL⟩
   obtain⟨B5,eB5⟩:∃ B,B=B4++bitsN F.m.toNat 48:=⟨_,rfl⟩
   rw[<-eB5] at hL
   obtain⟨G5,hM⟩:=HM4.out.step HS.out hL
   have HM5:Hid (RMid w (w.heap.size+1) F A B5 G5 X5):=hM
   have HL5:Hid (B5.length<=124):=by have:=HL4.out;show _<=_;rw[eB5,List.length_append,bitsN_length];omega
   have EB5:Hid (B5=B4++bitsN F.m.toNat 48):=eB5
   clear hp hL hM cc eB5 hw0
   have hp:=rput_fits X5 (w.heap.size+1) B5 G5 HM5.out.obj F.e 16 HI.out.e.1 (by omega) (by have:=HI.out.e;omega) (by have:=HL5.out;omega)
   have hw0:IntKind.u64.wrap F.e=F.e:=by rw[IntKind.wrap_u64];have:=HI.out.e;omega
   have cc:=HM5.out.fr.c3
   go_wp2_with fail
   refine hp.mono ?_
   rintro e X6 ⟨rfl,hL⟩
   obtain⟨B6,eB6⟩:∃ B,B=B5++bitsN F.e.toNat 16:=⟨_,rfl⟩
   rw[<-eB6] at hL
   obtain⟨G6,hM⟩:=HM5.out.step HS.out hL
   have HM6:Hid (RMid w (w.heap.size+1) F A B6 G6 X6):=hM
   have HL6:Hid (B6.length<=140):=by have:=HL5.out;show _<=_;rw[eB6,List.length_append,bitsN_length];omega
   have EB6:Hid (B6=B5++bitsN F.e.toNat 16):=eB6
   clear hp hL hM cc eB6 hw0
   have hp:=rput_fits X6 (w.heap.size+1) B6 G6 HM6.out.obj F.s 24 HI.out.s.1 (by omega) (by have:=HI.out.s;omega) (by have:=HL6.out;omega)
   have hw0:IntKind.u64.wrap F.s=F.s:=by rw[IntKind.wrap_u64];have:=HI.out.s;omega
   have cc:=HM6.out.fr.c4
   go_wp2_with fail
   refine hp.mono ?_
   rintro e X7 ⟨rfl,hL⟩
   obtain⟨B7,eB7⟩:∃ B,B=B6++bitsN F.s.toNat 24:=⟨_,rfl⟩
   rw[<-eB7] at hL
   obtain⟨G7,hM⟩:=HM6.out.step HS.out hL
   have HM7:Hid (RMid w (w.heap.size+1) F A B7 G7 X7):=hM
   have HL7:Hid (B7.length<=164):=by have:=HL6.out;show _<=_;rw[eB7,List.length_append,bitsN_length];omega
   have EB7:Hid (B7=B6++bitsN F.s.toNat 24):=eB7
   clear hp hL hM cc eB7 hw0
   have hp:=rkey_ok X7 (w.heap.size+1) F A B7 G7 HM7.out.obj HM7.out.seen (HM7.out.clears HS.out) HI.out.i HKL.out (by have:=HL7.out;omega)
   have HLD:Hid ((Instr.loadAt 40 (.pointer (some ⟨w.heap.size,0,none⟩))).run Tryz.prog X7=.ok (.agg (frC F A)) X7):=HM7.out.fr.loads
   go_wp2_with (first|(refine wpList_gload_run rfl 40 _ rfl _ _ rfl HLD.out ?_)|fail)
   refine hp.mono ?_
   rintro e X8 ⟨⟨r8,rfl⟩,hL⟩
   obtain⟨B8,eB8⟩:∃ B,B=B7++bitsN F.i.toNat 16++bitsOf F.key:=⟨_,rfl⟩
   rw[<-eB8] at hL
   obtain⟨G8,hM⟩:=HM7.out.step HS.out hL
   have HM8:Hid (RMid w (w.heap.size+1) F A B8 G8 X8):=hM
   have HL8:Hid (B8.length<=308):=by have:=HL7.out;have:=HKL.out;show _<=_;rw[eB8,List.length_append,List.length_append,bitsN_length,bitsOf_length];omega
   have EB8:Hid (B8=B7++bitsN F.i.toNat 16++bitsOf F.key):=eB8
   clear hp hL hM eB8 HLD
   have hE:B8=coreBits F:=by
    rw[hcb]
    unfold kindBits
    rw[if_neg K1.out,if_neg K2.out]
    unfold pongBits pingBits
    rw[EB8.out,EB7.out,EB6.out,EB5.out,EB4.out,EB3.out,EB2.out,EB1.out,EB0.out]
    simp only[List.append_assoc,List.nil_append]
   have HE:Hid (RW X8 (w.heap.size+1) (coreBits F) G8/\(∀ k,G8 k->w.heap.size<=k)/\Below w.heap.size w X8):=⟨by rw[<-hE];exact HM8.out.obj,λk hk=>Nat.le_of_lt (HM8.out.above k hk),HM8.out.bel⟩
   clear hE
   go_wp2
   go_ret
   exact⟨_,G8,rfl,HE.out⟩
theorem core_len (F:Fr)(hn:F.n<18446744073709551616)(hr:coreB F=true):(coreBits F).length<=333:=(wcore_bits F hn hr).2
theorem rput_yes (w:World)(F:Fr)(A:At)(hF:Seen w F A)(hn:F.n<18446744073709551616)(hr:rightB F=true):
  Calls Tryz.prog 65 #[.agg (frC F A)] w λe w'=>∃ d cd r,Hid (r=putL F)/\e=.returned (.tuple #[.slice d r.length cd,.int .i64 0])/\Sees w' d cd r/\Below w.heap.size w w':=by
 have hN:=FrAt.new w F A
 have hb0:Below w.heap.size w (w.alloc (.cells (frC F A) 40)):=Go.Joins.below_alloc1 _ _
 have hck:=rcheck_ok (w.alloc (.cells (frC F A) 40)) F A (hF.below hb0)
 rw[if_pos hr] at hck
 have hrc:coreB F=true/\F.tag.length=8:=by unfold rightB at hr;simp only[Bool.and_eq_true,decide_eq_true_eq] at hr;exact hr
 have HB:Hid ((coreBits F).length<=333/\F.tag.length=8):=⟨core_len F hn hrc.1,hrc.2⟩
 have HR:Hid (F.n<18446744073709551616/\coreB F=true):=⟨hn,hrc.1⟩
 have HF:Hid (Seen w F A):=hF
 have H0:Hid (FrAt (w.alloc (.cells (frC F A) 40)) w.heap.size F A/\Below w.heap.size w (w.alloc (.cells (frC F A) 40))):=⟨hN,hb0⟩
 have HL:Hid ((Instr.loadAt 40 (.pointer (some ⟨w.heap.size,0,none⟩))).run Tryz.prog (w.alloc (.cells (frC F A) 40))=.ok (.agg (frC F A)) (w.alloc (.cells (frC F A) 40))):=hN.loads
 clear hN hb0 hF hn hr hrc
 go_enter Tryz.func65,Tryz.ntmps65
 go_upto_region 1 with fail
 generalize w.alloc (Obj.cells (frC F A) 40)=W0 at *
 go_wp2_with (first|(refine wpList_gload_run rfl 40 _ rfl _ _ rfl HL.out ?_)|fail)
 refine hck.mono ?_
 rintro e w1 ⟨rfl,hb1⟩
 have H1:Hid (FrAt w1 w.heap.size F A/\Below w.heap.size w w1):=⟨H0.out.1.below hb1,H0.out.2.trans (hb1.mono H0.out.2.size)⟩
 have HL1:Hid ((Instr.loadAt 40 (.pointer (some ⟨w.heap.size,0,none⟩))).run Tryz.prog w1=.ok (.agg (frC F A)) w1):=H1.out.1.loads
 have hco:=rbits_ok w1 F A (HF.out.below H1.out.2) HR.out.1 HR.out.2
 clear hck HL hb1 H0
 go_wp2_with (first|(refine wpList_gload_run rfl 40 _ rfl _ _ rfl HL1.out ?_)|fail)
 refine hco.mono ?_
 rintro e w2 ⟨g,G,rfl,hRW,hG,hb2⟩
 have hb2w:Below w.heap.size w w2:=H1.out.2.trans (hb2.mono H1.out.2.size)
 have hfr2:=H1.out.1.below hb2
 have c12:=hfr2.c12
 have hcl:Clear G A.ta F.tag:=λb off e hne hg=>by
  have:=HF.out.tag.lt b off e hne
  have:=hG b hg
  have:=H1.out.2.size
  omega
 have hby:=rbytes_fits w2 g (coreBits F) G hRW A.ta A.tc F.tag (HF.out.tag.below hb2w) hcl (by have:=HB.out;omega) (by have:=HB.out;omega)
 have H2:Hid (Below w.heap.size w w2/\∀ k,G k->w.heap.size<=k):=⟨hb2w,λk hk=>Nat.le_trans H1.out.2.size (hG k hk)⟩
 clear hco hRW hG hb2 hb2w hfr2 hcl H1 HL1
 go_wp2_with fail
 refine hby.mono ?_
 rintro e w3 ⟨rfl,G3,hR3,hap3,hs3⟩
 have hb3:Below w.heap.size w w3:=hap3.below H2.out.1 H2.out.2 H2.out.1.size
 have hlen3:(coreBits F++bitsOf F.tag).length<=397:=by rw[List.length_append,bitsOf_length];have:=HB.out;omega
 have hdn:=rdone_any w3 g _ G3 hR3 (by omega)
 have H3:Hid (Below w.heap.size w w3/\(coreBits F++bitsOf F.tag).length<=397):=⟨hb3,hlen3⟩
 clear hby hR3 hap3 hs3 hb3 hlen3 c12 H2
 go_wp2_with fail
 refine hdn.mono ?_
 rintro e w5 ⟨d5,c5,r5,hr5,rfl,hs5,hb5⟩
 have hlen:r5.length<=50:=by
  rw[hr5.out,packL_length];have:=H3.out.2;omega
 have hfx:=rfix_any w5 d5 c5 r5 hs5 (by omega)
 have H5:Hid (Below w.heap.size w w5/\putL F=fixL r5):=⟨H3.out.1.trans (hb5.mono H3.out.1.size),by unfold putL;rw[hr5.out]⟩
 clear hdn hr5 hs5 hb5 H3 hlen
 go_wp2_with fail
 refine hfx.mono ?_
 rintro e w6 ⟨d6,c6,r6,hr6,rfl,hs6,hb6,_⟩
 have HE:Hid (Hid (r6=putL F)/\Sees w6 d6 c6 r6/\Below w.heap.size w w6):=
  ⟨by rw[H5.out.2];exact hr6,hs6,H5.out.1.trans (hb6.mono H5.out.1.size)⟩
 clear hfx hr6 hs6 hb6 H5
 go_wp2
 go_ret2
 exact⟨d6,c6,r6,HE.out.1,rfl,HE.out.2⟩
def tagN (F:Fr):Fr:={ F with tag:=List.replicate 8 0 }
theorem tagN_right (F:Fr):rightB (tagN F)=coreB F:=by
 have h1:coreB (tagN F)=coreB F:=rfl
 unfold rightB
 rw[h1]
 simp[tagN]
theorem rcore_copy (w:World)(F:Fr)(A:At):∃ W,(Instr.storeAt 40 (.pointer (some ⟨w.heap.size+1,0,none⟩)) (.agg (frC F A))).run Tryz.prog ((w.alloc (.cells (frC F A) 40)).alloc (.cells (frC Fr.zero At.zero) 40))=.ok () W /\
  W.heap.size=w.heap.size+2/\FrAt W w.heap.size F A/\FrAt W (w.heap.size+1) F A/\Below w.heap.size w W:=by
 obtain⟨h1,h2⟩:=two_new' w F A Fr.zero At.zero
 exact⟨_,h2.stores _ _,by simp,h1.keep (setRow_other _ _ _ _ (by omega)),h2.stored _ _,below_setRow (Go.Joins.below_alloc2 _ _ _) (by omega) _⟩
theorem rcore_tag (w W1:World)(F:Fr)(A:At)(hF:Seen w F A)(x:Nat)(hx:w.heap.size+2<=x)(h1:FrAt W1 w.heap.size F A)(h2:FrAt W1 (w.heap.size+1) F A)(hb:Below w.heap.size w W1)(ho:Sees W1 (some ⟨x,0,none⟩) 8 (List.replicate 8 (0:UInt8))):
  FrAt (W1.setCell ⟨w.heap.size+1,12,none⟩ (.slice (some ⟨x,0,none⟩) 8 8)) w.heap.size F A/\FrAt (W1.setCell ⟨w.heap.size+1,12,none⟩ (.slice (some ⟨x,0,none⟩) 8 8)) (w.heap.size+1) (tagN F) { A with ta:=some ⟨x,0,none⟩,tc:=8 } /\
   Seen (W1.setCell ⟨w.heap.size+1,12,none⟩ (.slice (some ⟨x,0,none⟩) 8 8)) (tagN F) { A with ta:=some ⟨x,0,none⟩,tc:=8 }/\Below w.heap.size w (W1.setCell ⟨w.heap.size+1,12,none⟩ (.slice (some ⟨x,0,none⟩) 8 8)):=by
 have hbv:Below w.heap.size w (W1.setCell ⟨w.heap.size+1,12,none⟩ (.slice (some ⟨x,0,none⟩) 8 8)):=hb.setCell (p:=⟨w.heap.size+1,12,none⟩) (by simp) _
 refine⟨h1.keep (heap_setCell_other _ _ _ _ (by simp)),h2.put 12 _ rfl,⟨hF.key.below hbv,hF.body.below hbv,?_⟩,hbv⟩
 exact ho.set _ (λb off e _=>by cases e;omega)
theorem rcore_any (w:World)(F:Fr)(A:At)(hF:Seen w F A)(hn:F.n<18446744073709551616):
  Calls Tryz.prog 95 #[.agg (frC F A)] w λe w'=>(coreB F=true->∃ d cd r,Hid (r=coreL F)/\e=.returned (.tuple #[.slice d r.length cd,.int .i64 0])/\Sees w' d cd r/\Below w.heap.size w w') /\
   (coreB F=false->e=.returned (.tuple #[.slice none 0 0,.int .i64 1])/\Below w.heap.size w w'):=by
 obtain⟨W,hst,hsz,h1,h2,hb⟩:=rcore_copy w F A
 have HL:Hid ((Instr.loadAt 40 (.pointer (some ⟨w.heap.size,0,none⟩))).run Tryz.prog (w.alloc (.cells (frC F A) 40))=.ok (.agg (frC F A)) (w.alloc (.cells (frC F A) 40))):=(FrAt.new w F A).loads
 have HST:Hid ((Instr.storeAt 40 (.pointer (some ⟨w.heap.size+1,0,none⟩)) (.agg (frC F A))).run Tryz.prog ((w.alloc (.cells (frC F A) 40)).alloc (.cells (frC Fr.zero At.zero) 40))=.ok () W):=hst
 have c12:=h2.c12
 have z12:=h2.fz 12
 have H0:Hid (FrAt W w.heap.size F A/\FrAt W (w.heap.size+1) F A/\Below w.heap.size w W):=⟨h1,h2,hb⟩
 have HF:Hid (Seen w F A/\F.n<18446744073709551616):=⟨hF,hn⟩
 obtain⟨i5,hi,hz0,hz1,hz2⟩:=info_parts Tryz.info5
 have HSZ:Hid (W.heap.size=w.heap.size+2):=hsz
 clear hst h1 h2 hb hF hn hsz c12 z12
 go_enter Tryz.func95,Tryz.ntmps95
 go_wp2_with (first|(refine wpList_gload_run rfl 40 _ rfl _ _ rfl HL.out ?_)|(refine wpList_store_run rfl 40 _ _ rfl _ _ rfl rfl HST.out ?_)|(at_make;refine wpList_make_full _ rfl _ _ 24 rfl W.heap.size 5 i5 (.int .u8 0) 1 Tryz.underlying24 hi hz0 hz1 .i64 .i64 _ _ 8 rfl rfl rfl rfl ?b2 ?b3 ?b4 ?_))
 case b2=>rw[hz2];decide
 case b3=>decide
 case b4=>exact Nat.le_refl _
 intro W1 hown hgr
 have hb1:Below W.heap.size W W1:=(Below.refl _ _).grown hgr (Nat.le_refl _) (by simp)
 have hown2:W1.ownsRow W.heap.size 5 1 (.slice (some ⟨W.heap.size,0,none⟩) 8 8) 8 ((List.replicate 8 (0:UInt8)).map cellOf):=by
  rw[<-made_bytes];simpa using hown
 have hsee:Sees W1 (some ⟨W.heap.size,0,none⟩) 8 (List.replicate 8 (0:UInt8)):=by
  obtain⟨a,cap,he,h⟩:=Sees.of_own hown2
  cases he
  exact h
 have h1:=H0.out.1.below hb1
 have h2:=H0.out.2.1.below hb1
 have hbw:Below w.heap.size w W1:=H0.out.2.2.trans (hb1.mono H0.out.2.2.size)
 have c12:=h2.c12
 have z12:=h2.fz 12
 obtain⟨k1,k2,k3,k4⟩:=rcore_tag w W1 F A HF.out.1 W.heap.size (by have:=HSZ.out;omega) h1 h2 hbw hsee
 obtain⟨V,hV⟩:∃ V,V=W1.setCell ⟨w.heap.size+1,12,none⟩ (.slice (some ⟨W.heap.size,0,none⟩) 8 8):=⟨_,rfl⟩
 obtain⟨A2,hA2⟩:∃ A2:At,A2={ A with ta:=some ⟨W.heap.size,0,none⟩,tc:=8 }:=⟨_,rfl⟩
 rw[<-hV] at k1 k2 k3 k4
 rw[<-hA2] at k2 k3
 have hck:=rcheck_ok V (tagN F) A2 k3
 rw[tagN_right] at hck
 have HL2:Hid ((Instr.loadAt 40 (.pointer (some ⟨w.heap.size+1,0,none⟩))).run Tryz.prog V=.ok (.agg (frC (tagN F) A2)) V):=k2.loads
 have H3:Hid (FrAt V w.heap.size F A/\Below w.heap.size w V):=⟨k1,k4⟩
 have HV:Hid (V=W1.setCell ⟨w.heap.size+1,12,none⟩ (.slice (some ⟨W.heap.size,0,none⟩) 8 8)):=hV
 clear hown hgr hown2 hsee h1 h2 hbw k1 k2 k3 k4 hA2 hV H0 HL HST hi hz0 hz1 hz2 hb1
 go_upto_region 3 with fail
 clear c12 z12
 rw[<-HV.out]
 clear HV
 obtain⟨bc,hbc⟩:∃ b,coreB F=b:=⟨_,rfl⟩
 have HBC:Hid (coreB F=bc):=hbc
 rw[hbc] at hck
 clear hbc
 cases bc
 ·rw[if_neg (by decide)] at hck
  go_wp2_with (first|(refine wpList_gload_run rfl 40 _ rfl _ _ rfl HL2.out ?_)|fail)
  refine hck.mono ?_
  rintro e w1 ⟨rfl,hb⟩
  have HE:Hid (Below w.heap.size w w1):=H3.out.2.trans (hb.mono H3.out.2.size)
  clear hck hb H3 HL2
  go_wp2
  go_ret2
  exact⟨λh=>(by rw[HBC.out] at h;cases h),λ_=>⟨rfl,HE.out⟩⟩
 ·rw[if_pos rfl] at hck
  go_wp2_with (first|(refine wpList_gload_run rfl 40 _ rfl _ _ rfl HL2.out ?_)|fail)
  refine hck.mono ?_
  rintro e w1 ⟨rfl,hb⟩
  have H4:Hid (FrAt w1 w.heap.size F A/\Below w.heap.size w w1):=⟨H3.out.1.below hb,H3.out.2.trans (hb.mono H3.out.2.size)⟩
  have HL4:Hid ((Instr.loadAt 40 (.pointer (some ⟨w.heap.size,0,none⟩))).run Tryz.prog w1=.ok (.agg (frC F A)) w1):=H4.out.1.loads
  have hco:=rbits_ok w1 F A (HF.out.1.below H4.out.2) HF.out.2 HBC.out
  clear hck hb H3 HL2
  go_wp2_with (first|(refine wpList_gload_run rfl 40 _ rfl _ _ rfl HL4.out ?_)|fail)
  refine hco.mono ?_
  rintro e w2 ⟨g,G,rfl,hRW,_,hb2⟩
  have hdn:=rdone_any w2 g _ G hRW (by have:=core_len F HF.out.2 HBC.out;omega)
  have H5:Hid (Below w.heap.size w w2):=H4.out.2.trans (hb2.mono H4.out.2.size)
  clear hco hRW hb2 HL4 H4
  go_wp2_with fail
  refine hdn.mono ?_
  rintro e w5 ⟨d5,c5,r5,hr5,rfl,hs5,hb5⟩
  have HE:Hid (Hid (r5=coreL F)/\Sees w5 d5 c5 r5/\Below w.heap.size w w5):=⟨hr5,hs5,H5.out.trans (hb5.mono H5.out.size)⟩
  clear hdn hr5 hs5 hb5 H5
  go_wp2
  go_ret2
  exact⟨λ_=>⟨d5,c5,r5,HE.out.1,rfl,HE.out.2⟩,λh=>(by rw[HBC.out] at h;cases h)⟩
def coreR' (F:Fr):List UInt8:=if coreB F=true then coreL F else []
def coreE (F:Fr):Int:=if coreB F=true then 0 else 1
def FTells (w w':World)(e:Ending)(l:List UInt8)(n:Int):Prop:=∃ d cd,e=.returned (.tuple #[.slice d l.length cd,.int .i64 n])/\Sees w' d cd l/\Below w.heap.size w w'
theorem rcore_any' (w:World)(F:Fr)(A:At)(hF:Seen w F A)(hn:F.n<18446744073709551616):Calls Tryz.prog 95 #[.agg (frC F A)] w λe w'=>FTells w w' e (coreR' F) (coreE F):=by
 unfold coreR' coreE
 refine(rcore_any w F A hF hn).mono ?_
 rintro e w' ⟨h1,h2⟩
 by_cases h:coreB F=true
 ·rw[if_pos h,if_pos h]
  obtain⟨d,cd,r,hr,rfl,hs,hb⟩:=h1 h
  have hr':=hr.out
  subst hr'
  exact⟨d,cd,rfl,hs,hb⟩
 ·rw[if_neg h,if_neg h]
  obtain⟨rfl,hb⟩:=h2 (by simpa using h)
  exact⟨none,0,rfl,Sees.nil' _,hb⟩
end Go.Proofs.YtahnbljbhfpldaaGreatDoor
