/- A helper. -/
import Derived.Test.YtmffplhaclnehaaGreatDoorFrameC
import Derived.Test.YtmffplhaclnehaaGreatDoorFrameRCheck
namespace Go.Proofs.YtmffplhaclnehaaGreatDoor
set_option maxRecDepth 20000
set_option maxHeartbeats 6400000
open Go.ChangeShapes Go.WideShapes Go.ChangeAt Go.RowKit
variable {w:World} {F:Fr} {A:At} {G:Nat->Prop}
theorem fZ {P:Program}{o:Oper}{a:Act}(ty:TypeId)(x:Operand)(ho:o.op=.load ty x)(v r:Value)(hx:a.eval x=v)(hrun:(Instr.loadAt ty v).run P w=.ok r w):(execOp a.eval o).run P w=.ok (.value r) w:=by
 unfold execOp
 simp only[ho,hx,Sem.run_bind,hrun,Result.andThen_ok,Sem.run_pure]
theorem Jt {B B':Nat}{v:Value}{n:Nat}{xs:List Value}(h:w.ownsRow B 5 1 v n xs)(hB:B'<=B):w.ownsRow B' 5 1 v n xs:=by
 refine⟨h.1,?_⟩
 rcases h.2 with h0|⟨g,cap,cur,rfl,hlow,h4⟩
 ·exact .inl h0
 ·exact .inr ⟨g,cap,cur,rfl,Nat.le_trans hB hlow,h4⟩
def Ur (w w':World)(e:Ending)(l:List UInt8):Prop:=∃ d cd r,Hid (r=l)/\e=.returned (.tuple #[.slice d r.length cd,.int .i64 0])/\ag w' d cd r/\Below w.heap.size w w'/\w'.ownsRow w.heap.size 5 1 (.slice d r.length cd) r.length (r.map cellOf)
theorem Seen.clears (h:Seen w F A)(hG:∀ k,G k->w.heap.size<=k):Clears G F A:=
 ⟨λb off e hne hg=>by have:=h.key.lt b off e hne;have:=hG b hg;omega,λb off e hne hg=>by have:=h.body.lt b off e hne;have:=hG b hg;omega,λb off e hne hg=>by have:=h.tag.lt b off e hne;have:=hG b hg;omega⟩
theorem Yz (w:World)(F:Fr)(A:At)(hF:Seen w F A)(hn:F.n<18446744073709551616)(hr:dw F=true):Calls Tryz.prog 97 #[.agg (au F A)] w λe w'=>Ur w w' e (IV F):=by
 have hN:=aj.new w F A
 have hb0:Below w.heap.size w (w.alloc (.cells (au F A) 61)):=Go.Joins.below_alloc1 _ _
 have hck:=Cj (w.alloc (.cells (au F A) 61)) F A (hF.below hb0)
 rw[if_pos hr] at hck
 have hrc:bH F=true:=by unfold dw at hr;simp only[Bool.and_eq_true] at hr;exact hr.1
 have HI:Hid (gy F/\F.body.length<=16):=⟨(kV F hn hrc).1,(kV F hn hrc).2.1⟩
 have HB:Hid (uj (λ_ n _=>n) (λbs n V=>jF bs n (V:Int)) (λ_ l _=>l) (λbs l _=>bV bs l) [] F=(F,aU F++bitsOf F.tag)/\(aU F++bitsOf F.tag).length<=397):=Cc F hn hr
 have HF:Hid (Seen w F A):=hF
 have H0:Hid (aj (w.alloc (.cells (au F A) 61)) w.heap.size F A/\Below w.heap.size w (w.alloc (.cells (au F A) 61))):=⟨hN,hb0⟩
 have HL:Hid ((Instr.loadAt 61 (.pointer (some ⟨w.heap.size,0,none⟩))).run Tryz.prog (w.alloc (.cells (au F A) 61))=.ok (.agg (au F A)) (w.alloc (.cells (au F A) 61))):=hN.loads
 clear hN hb0 hF hn hr hrc
 go_enter Tryz.func97,Tryz.ntmps97
 go_upto_region 1 with fail
 generalize w.alloc (Obj.cells (au F A) 61)=W0 at *
 go_wp2_with (first|(refine af rfl 61 _ rfl _ _ rfl HL.out ?_)|fail)
 refine hck.mono ?_
 rintro e w1 ⟨rfl,hb1⟩
 have H1:Hid (aj w1 w.heap.size F A/\Below w.heap.size w w1):=⟨H0.out.1.below hb1,H0.out.2.trans (hb1.mono H0.out.2.size)⟩
 have hnew:=Gc w1
 clear hck HL hb1 H0
 go_wp2_with fail
 refine hnew.mono ?_
 rintro e w2 ⟨b,Fb,rfl,WQ,hb2,Pz⟩
 have oJ:Below w.heap.size w w2:=H1.out.2.trans (hb2.mono H1.out.2.size)
 have Us:∀ k,Fb k->w.heap.size<=k:=λk hk=>Nat.le_trans H1.out.2.size (Pz k hk)
 have H2:Hid (aj w2 w.heap.size F A/\Ce w2 b [] Fb/\Seen w2 F A/\Below w.heap.size w w2/\∀ k,Fb k->w.heap.size<=k):=⟨H1.out.1.below hb2,⟨WQ,by simp⟩,HF.out.below oJ,oJ,Us⟩
 have PY:Hid (¬ Fb w.heap.size):=λh=>by have:=Pz _ h;have:=H1.out.1.lt;omega
 have Ju:Hid (Clears Fb F A):=HF.out.clears Us
 clear hnew WQ hb2 Pz oJ Us H1 HF
 go_wp2
 refine wp_region_noPanic ?_
 refine wp_region_held (S:=λW=>Apart Fb w2 W) (by kernel_rfl) ?_
 have hS:Apart Fb w2 w2.drew:=(Apart.refl _ _).drew
 refine tk 2 (v:=.agg (au F A)) (hv:=λW hW=>fZ 61 (.tmp 1) rfl (.pointer (some ⟨w.heap.size,0,none⟩)) _ rfl (H2.out.1.keep (hW.block _ H2.out.1.lt PY.out)).loads) hS ?_
 refine tk 0 (v:=.pointer (some ⟨b,0,none⟩)) (hv:=by intro w _;go_simp) hS ?_
 clear hS
 refine aI 1 rfl (by kernel_rfl) (by rfl) (λK hK=>?_)
 go_simp
 refine(wO _ b).mono ?_
 rintro e w3 ⟨rfl,hb3⟩
 have Ut:Below w2.heap.size w2 w3:=(Below.refl _ w2).drew.trans (hb3.mono (Nat.le_refl _))
 have H3:Hid (Below w2.heap.size w2 w3):=Ut
 refine hK.out _ _ (Apart.of_below Ut) (λ_=>?_)
 clear hK hb3 Ut
 (try simp only[Act.put,sT])
 have hc:=yU (GA b) w3 [] Fb F A (pz.below H2.out.2.1 H3.out) (H2.out.2.2.1.below H3.out) Ju.out HI.out.1 HI.out.2
 rw[HB.out.1] at hc
 have HC:Hid (Calls Tryz.prog 60 #[.agg #[.func (.func 191) #[Lc b] #[],.func (.func 192) #[Lc b] #[]],.agg (au F A)] w3 λe w'=>Leaves Ce b w3 Fb (F,aU F++bitsOf F.tag) e w'):=hc
 clear hc
 refine aI 3 rfl (by kernel_rfl) (by rfl) (λK hK=>?_)
 go_simp
 refine HC.out.mono ?_
 rintro e w4 ⟨A4,F4,rfl,WR,Ex,M8,_,_,_⟩
 have vC:Below w.heap.size w w3:=H2.out.2.2.2.1.trans (H3.out.mono H2.out.2.2.2.1.size)
 have hb4:Below w.heap.size w w4:=Ex.below vC H2.out.2.2.2.2 vC.size
 have H4:Hid (Ce w4 b (aU F++bitsOf F.tag) F4/\Below w.heap.size w w4):=⟨WR,hb4⟩
 refine hK.out _ _ ((Apart.of_below H3.out).trans Ex (λ_ h=>.inl h)) (λ_=>?_)
 clear hK HC WR Ex M8 hb4 vC H3 H2
 refine wpAnyH_done (by kernel_rfl) (NoPanic.normal ?_) _
 have hd:=BI w4 b _ F4 H4.out.1.1 H4.out.1.2
 go_wp2_with fail
 refine hd.mono ?_
 rintro e w5 ⟨d5,c5,r5,kz,rfl,hs5,hb5⟩
 have hlen:r5.length<=50:=by
  rw[kz.out,dH];have:=HB.out.2;omega
 have hfx:=Uj w5 d5 c5 r5 hs5 (by omega)
 have H5:Hid (Below w.heap.size w w5/\IV F=sj r5):=⟨H4.out.2.trans (hb5.mono H4.out.2.size),by unfold IV;rw[kz.out]⟩
 clear hd kz hs5 hb5 H4 hlen
 go_wp2_with fail
 refine hfx.mono ?_
 rintro e w6 ⟨d6,c6,r6,WS,rfl,hs6,hb6,hown⟩
 have HE:Hid (Hid (r6=IV F)/\ag w6 d6 c6 r6/\Below w.heap.size w w6/\w6.ownsRow w.heap.size 5 1 (.slice d6 r6.length c6) r6.length (r6.map cellOf)):=
  ⟨by rw[H5.out.2];exact WS,hs6,H5.out.1.trans (hb6.mono H5.out.1.size),Jt hown H5.out.1.size⟩
 clear hfx WS hs6 hb6 hown H5
 go_wp2
 go_ret2
 exact⟨d6,c6,r6,HE.out.1,rfl,HE.out.2⟩
theorem M9 (w:World)(F:Fr)(A:At)(hF:Seen w F A)(hn:F.n<18446744073709551616)(hr:bH F=true):Calls Tryz.prog 145 #[.agg (au F A)] w λe w'=>∃ d cd r,Hid (r=mY F)/\e=.returned (.tuple #[.slice d r.length cd,.int .i64 0])/\ag w' d cd r/\Below w.heap.size w w':=by
 have hN:=aj.new w F A
 have hb0:Below w.heap.size w (w.alloc (.cells (au F A) 61)):=Go.Joins.below_alloc1 _ _
 have hck:=wQ (w.alloc (.cells (au F A) 61)) F A (hF.below hb0)
 rw[hr] at hck
 have hrc:=hr
 have HI:Hid (gy F/\F.body.length<=16):=⟨(kV F hn hrc).1,(kV F hn hrc).2.1⟩
 have HB:Hid (nE (λ_ n _=>n) (λbs n V=>jF bs n (V:Int)) (λ_ l _=>l) (λbs l _=>bV bs l) [] F=(F,aU F)/\(aU F).length<=333):=rD F hn hr
 have HF:Hid (Seen w F A):=hF
 have H0:Hid (aj (w.alloc (.cells (au F A) 61)) w.heap.size F A/\Below w.heap.size w (w.alloc (.cells (au F A) 61))):=⟨hN,hb0⟩
 have HL:Hid ((Instr.loadAt 61 (.pointer (some ⟨w.heap.size,0,none⟩))).run Tryz.prog (w.alloc (.cells (au F A) 61))=.ok (.agg (au F A)) (w.alloc (.cells (au F A) 61))):=hN.loads
 clear hN hb0 hF hn hr hrc
 go_enter Tryz.func145,Tryz.ntmps145
 go_upto_region 1 with fail
 generalize w.alloc (Obj.cells (au F A) 61)=W0 at *
 go_wp2_with (first|(refine af rfl 61 _ rfl _ _ rfl HL.out ?_)|fail)
 refine hck.mono ?_
 rintro e w1 ⟨rfl,hb1⟩
 have H1:Hid (aj w1 w.heap.size F A/\Below w.heap.size w w1):=⟨H0.out.1.below hb1,H0.out.2.trans (hb1.mono H0.out.2.size)⟩
 have hnew:=Gc w1
 clear hck HL hb1 H0
 go_wp2_with fail
 refine hnew.mono ?_
 rintro e w2 ⟨b,Fb,rfl,WQ,hb2,Pz⟩
 have oJ:Below w.heap.size w w2:=H1.out.2.trans (hb2.mono H1.out.2.size)
 have Us:∀ k,Fb k->w.heap.size<=k:=λk hk=>Nat.le_trans H1.out.2.size (Pz k hk)
 have H2:Hid (aj w2 w.heap.size F A/\Ce w2 b [] Fb/\Seen w2 F A/\Below w.heap.size w w2/\∀ k,Fb k->w.heap.size<=k):=⟨H1.out.1.below hb2,⟨WQ,by simp⟩,HF.out.below oJ,oJ,Us⟩
 have PY:Hid (¬ Fb w.heap.size):=λh=>by have:=Pz _ h;have:=H1.out.1.lt;omega
 have Ju:Hid (Clears Fb F A):=HF.out.clears Us
 clear hnew WQ hb2 Pz oJ Us H1 HF
 go_wp2
 refine wp_region_noPanic ?_
 refine wp_region_held (S:=λW=>Apart Fb w2 W) (by kernel_rfl) ?_
 have hS:Apart Fb w2 w2.drew:=(Apart.refl _ _).drew
 refine tk 2 (v:=.agg (au F A)) (hv:=λW hW=>fZ 61 (.tmp 1) rfl (.pointer (some ⟨w.heap.size,0,none⟩)) _ rfl (H2.out.1.keep (hW.block _ H2.out.1.lt PY.out)).loads) hS ?_
 refine tk 0 (v:=.pointer (some ⟨b,0,none⟩)) (hv:=by intro w _;go_simp) hS ?_
 clear hS
 refine aI 1 rfl (by kernel_rfl) (by rfl) (λK hK=>?_)
 go_simp
 refine(wO _ b).mono ?_
 rintro e w3 ⟨rfl,hb3⟩
 have Ut:Below w2.heap.size w2 w3:=(Below.refl _ w2).drew.trans (hb3.mono (Nat.le_refl _))
 have H3:Hid (Below w2.heap.size w2 w3):=Ut
 refine hK.out _ _ (Apart.of_below Ut) (λ_=>?_)
 clear hK hb3 Ut
 (try simp only[Act.put,sT])
 have hc:=Gz (GA b) w3 [] Fb F A (pz.below H2.out.2.1 H3.out) (H2.out.2.2.1.below H3.out) Ju.out HI.out.1 HI.out.2
 rw[HB.out.1] at hc
 have HC:Hid (Calls Tryz.prog 111 #[.agg #[.func (.func 191) #[Lc b] #[],.func (.func 192) #[Lc b] #[]],.agg (au F A)] w3 λe w'=>Leaves Ce b w3 Fb (F,aU F) e w'):=hc
 clear hc
 refine aI 3 rfl (by kernel_rfl) (by rfl) (λK hK=>?_)
 go_simp
 refine HC.out.mono ?_
 rintro e w4 ⟨A4,F4,rfl,WR,Ex,M8,_,_,_⟩
 have vC:Below w.heap.size w w3:=H2.out.2.2.2.1.trans (H3.out.mono H2.out.2.2.2.1.size)
 have hb4:Below w.heap.size w w4:=Ex.below vC H2.out.2.2.2.2 vC.size
 have H4:Hid (Ce w4 b (aU F) F4/\Below w.heap.size w w4):=⟨WR,hb4⟩
 refine hK.out _ _ ((Apart.of_below H3.out).trans Ex (λ_ h=>.inl h)) (λ_=>?_)
 clear hK HC WR Ex M8 hb4 vC H3 H2
 refine wpAnyH_done (by kernel_rfl) (NoPanic.normal ?_) _
 have hd:=BI w4 b _ F4 H4.out.1.1 H4.out.1.2
 go_wp2_with fail
 refine hd.mono ?_
 rintro e w5 ⟨d5,c5,r5,kz,rfl,hs5,hb5⟩
 have HE:Hid (Hid (r5=mY F)/\ag w5 d5 c5 r5/\Below w.heap.size w w5):=⟨kz,hs5,H4.out.2.trans (hb5.mono H4.out.2.size)⟩
 clear hd kz hs5 hb5 H4
 go_wp2
 go_ret2
 exact⟨d5,c5,r5,HE.out.1,rfl,HE.out.2⟩
theorem QJ (w:World)(F:Fr)(A:At)(hF:Seen w F A)(hr:bH F=false):Calls Tryz.prog 145 #[.agg (au F A)] w λe w'=>e=.returned (.tuple #[.slice none 0 0,.int .i64 1])/\Below w.heap.size w w':=by
 have hN:=aj.new w F A
 have hb0:Below w.heap.size w (w.alloc (.cells (au F A) 61)):=Go.Joins.below_alloc1 _ _
 have hck:=wQ (w.alloc (.cells (au F A) 61)) F A (hF.below hb0)
 rw[hr] at hck
 have H0:Hid (Below w.heap.size w (w.alloc (.cells (au F A) 61))):=hb0
 have HL:Hid ((Instr.loadAt 61 (.pointer (some ⟨w.heap.size,0,none⟩))).run Tryz.prog (w.alloc (.cells (au F A) 61))=.ok (.agg (au F A)) (w.alloc (.cells (au F A) 61))):=hN.loads
 clear hN hb0 hF hr
 go_enter Tryz.func145,Tryz.ntmps145
 go_upto_region 1 with fail
 generalize w.alloc (Obj.cells (au F A) 61)=W0 at *
 go_wp2_with (first|(refine af rfl 61 _ rfl _ _ rfl HL.out ?_)|fail)
 refine hck.mono ?_
 rintro e w1 ⟨rfl,hb1⟩
 have HE:Hid (Below w.heap.size w w1):=H0.out.trans (hb1.mono H0.out.size)
 clear hck HL hb1 H0
 go_wp2
 go_ret2
 exact⟨rfl,HE.out⟩
theorem Seen.QK (h:Seen w F A)(hG:∀ k,G k->w.heap.size<=k):Clears G F A:=
 ⟨λb off e hne hg=>by have:=h.key.lt b off e hne;have:=hG b hg;omega,λb off e hne hg=>by have:=h.body.lt b off e hne;have:=hG b hg;omega,λb off e hne hg=>by have:=h.tag.lt b off e hne;have:=hG b hg;omega⟩
structure kY (w:World)(g:Nat)(F:Fr)(A:At)(bs:List Bool)(G:Nat->Prop)(W:World):Prop where
 fr:aj W w.heap.size F A
 obj:RW W g bs G
 above:∀ k,G k->w.heap.size<k
 seen:Seen W F A
 aM:Below w.heap.size w W
theorem kY.step {g:Nat}{bs bs':List Bool}{W W1:World}(h:kY w g F A bs G W)(hS:Seen w F A)(hL:Left RW W G g bs' W1):∃ G1,kY w g F A bs' G1 W1:=by
 obtain⟨G1,h1,h2,h3⟩:=hL
 have hlt:=h.fr.lt
 have hb:Below w.heap.size w W1:=h2.below h.aM (λk hk=>Nat.le_of_lt (h.above k hk)) h.aM.size
 refine⟨G1,h.fr.keep (h2.block _ hlt (λhg=>by have:=h.above _ hg;omega)),h1,λk hk=>?_,hS.below hb,hb⟩
 rcases h3 k hk with h4|h4
 ·exact h.above k h4
 ·omega
theorem kY.clears {g:Nat}{bs:List Bool}{W:World}(h:kY w g F A bs G W)(hS:Seen w F A):Clears G F A:=
 hS.QK λk hk=>Nat.le_of_lt (h.above k hk)
theorem dn (w:World)(g:Nat)(bs:List Bool)(G:Nat->Prop)(h:RW w g bs G)(n:Int)(V:Nat)(h0:0<=n)(hV:V<=64)(hn:n<2^V)(hl:bs.length+V<=8192):
  Calls Tryz.prog 221 #[.pointer (some ⟨g,0,none⟩),.int .u64 n,.int .i64 (V:Int)] w λe w'=>e=.returned (.int .i64 0)/\Left RW w G g (bs++az n.toNat V) w':=by
 obtain⟨m,rfl⟩:∃ m:Nat,n=m:=⟨n.toNat,by omega⟩
 rw[Int.toNat_natCast]
 exact FW      w g bs G h m V hV (by have : ((m : Nat) : Int) < ((2 ^ V : Nat) : Int) := by push_cast; exact hn
                                     omega) hl
theorem uP (w:World)(g:Nat)(bs:List Bool)(G:Nat->Prop)(h:RW w g bs G)(x:Option Addr)(cx:Nat)(l:List UInt8)(hx:ag w x cx l)(hc:Clear G x l)(h1:l.length<=1024)(hl:bs.length+8*l.length<=8192):
  Calls Tryz.prog 223 #[.pointer (some ⟨g,0,none⟩),.slice x l.length cx] w λe w'=>e=.returned (.int .i64 0)/\Left RW w G g (bs++bitsOf l) w':=by
 have hc:=DU w g bs G h x cx l hx hc (by omega)
 have h0:gp bs.length l.length=0:=by unfold gp;rw[if_neg (by omega)]
 rw[h0,jH bs l h1 hl] at hc
 exact hc
theorem GG (w:World)(g:Nat)(F:Fr)(A:At)(bs:List Bool)(G:Nat->Prop)(hW:RW w g bs G)(hS:Seen w F A)(hcl:Clears G F A)(hi:0<=F.i/\F.i<=256)(hk:F.key.length=16)(hl:bs.length<=1000):
  Calls Tryz.prog 222 #[.pointer (some ⟨g,0,none⟩),.agg (au F A)] w λe w'=>(∃ r,e=.returned r)/\Left RW w G g (bs++az F.i.toNat 16++bitsOf F.key) w':=by
 obtain⟨W0,hW0⟩:=ai (w.alloc (.cells (au F A) 61))
 have hN:=aj.new w F A
 rw[<-hW0] at hN
 have hb0:Below w.heap.size w W0:=by rw[hW0];exact Go.Joins.below_alloc1 _ _
 have c9:=hN.c9
 have hw0:IntKind.u64.wrap F.i=F.i:=by rw[IntKind.wrap_u64];omega
 have hp:=dn W0 g bs G (FV.below hW hb0) F.i 16 hi.1 (by omega) (by omega) (by omega)
 have hfr:¬ G w.heap.size:=λh=>by have:=FV.lt hW _ h;omega
 have H:Hid (∀ w1,Left RW W0 G g (bs++az F.i.toNat 16) w1->w1.cell? ⟨w.heap.size,10,none⟩=some (.slice A.ka F.key.length A.kc)/\Calls Tryz.prog 223 #[.pointer (some ⟨g,0,none⟩),.slice A.ka F.key.length A.kc] w1 λe w'=>e=.returned (.int .i64 0)/\Left RW w G g (bs++az F.i.toNat 16++bitsOf F.key) w'):=λw1 hL=>by
  obtain⟨G1,h1,h2,h3⟩:=hL
  have hs1:ag w1 A.ka A.kc F.key:=h2.sees (hS.key.below hb0) hcl.key
  refine⟨(hN.keep (h2.block _ hN.lt hfr)).c10,?_⟩
  refine(uP w1 g _ G1 h1 A.ka A.kc F.key hs1 ?_ (by omega) ?_).mono ?_
  ·intro b off e hne hg
   rcases h3 b hg with h4|h4
   ·exact hcl.key b off e hne h4
   ·have:=hS.key.lt b off e hne;have:=hb0.size;omega
  ·rw[List.length_append,ak];omega
  ·rintro e w2 ⟨he,G2,k1,k2,k3⟩
   refine⟨he,G2,k1,?_,λk hk=>?_⟩
   ·exact((Apart.of_below hb0).trans (h2.trans k2 h3) (λ_ h=>.inl h))
   ·rcases k3 k hk with h4|h4
    ·rcases h3 k h4 with h5|h5
     ·exact .inl h5
     ·right;have:=hb0.size;omega
    ·right;have:=hb0.size;have:=h2.size;omega
 clear hN hfr hW hS hcl hi hk hl hb0
 subst hW0
 go_enter Tryz.func222,Tryz.ntmps222
 go_wp2_with fail
 refine hp.mono ?_
 rintro e w1 ⟨rfl,hL⟩
 obtain⟨c10,hc⟩:=H.out w1 hL
 clear hp hL H c9
 go_wp2_with fail
 refine hc.mono ?_
 rintro e w2 ⟨rfl,hL2⟩
 have HE:Hid (Left RW w G g (bs++az F.i.toNat 16++bitsOf F.key) w2):=hL2
 clear hc hL2 c10
 go_wp2
 go_end0
 exact⟨⟨_,rfl⟩,HE.out⟩
structure InS (F:Fr):Prop where
 k:0<=F.k/\F.k<=3
 f:0<=F.f/\F.f<=7
 t:0<=F.t/\F.t<=7
 e:0<=F.e/\F.e<=65535
 s:0<=F.s/\F.s<=1048576
 r:0<=F.r/\F.r<=1048576
 m:0<=F.m/\F.m<=1099511627776
 v:0<=F.v/\F.v<=255
 i:0<=F.i/\F.i<=256
theorem Na (F:Fr)(hn:F.n<18446744073709551616)(hr:bH F=true):InS F:=by
 obtain⟨_,_,hk,_⟩:=kV F hn hr
 unfold bH at hr
 simp only[Bool.and_eq_true,decide_eq_true_eq] at hr
 obtain⟨hf,ht,he,hs,hrr,hm,hv,hi⟩:=(ql F).1 hr.1.1
 exact⟨by omega,hf,ht,he,hs,hrr,hm,hv,hi⟩
theorem Ey (w:World)(F:Fr)(A:At)(hS:Seen w F A):kY w (w.heap.size+1) F A [] (λk=>k=w.heap.size+1) ((w.alloc (.cells (au F A) 61)).alloc (.cells #[.slice none 0 0] 298)):=by
 have hb:Below w.heap.size w ((w.alloc (.cells (au F A) 61)).alloc (.cells #[.slice none 0 0] 298)):=Go.Joins.below_alloc2 _ _ _
 refine⟨(aj.new w F A).alloc _,⟨.slice none 0 0,?_,⟨rfl,.inl ⟨rfl,rfl⟩⟩,rfl,(λk hk=>by simp[Value.ownBlock] at hk),λk hk=>by rw[hk];simp⟩,λk hk=>by omega,hS.below hb,hb⟩
 have:=heap_alloc_new (w.alloc (.cells (au F A) 61)) (.cells #[.slice none 0 0] 298)
 simpa using this
theorem Nb (w:World)(F:Fr)(A:At)(hS:Seen w F A)(hn:F.n<18446744073709551616)(hr:bH F=true):
  Calls Tryz.prog 208 #[.agg (au F A)] w λe w'=>∃ g G,e=.returned (.pointer (some ⟨g,0,none⟩))/\RW w' g (aU F) G/\(∀ k,G k->w.heap.size<=k)/\Below w.heap.size w w':=by
 obtain⟨_,hB,hk3,K9⟩:=kV F hn hr
 have HI:Hid (InS F):=Na F hn hr
 have HN:Hid (F.n<18446744073709551616):=hn
 have K7:Hid (F.body.length<=16):=hB
 have HS:Hid (Seen w F A):=hS
 have hM:=Ey w F A hS
 have oH:Hid (([]:List Bool).length<=0):=Nat.le_refl 0
 have SF:Hid (F.k=1\/F.k=3->F.key.length=16):=K9
 have hcb:aU F=az F.k.toNat 4++az F.f.toNat 4++fV F:=rfl
 obtain⟨g,hg⟩:=ai (w.heap.size+1)
 have nG:Hid (kY w (w.heap.size+1) F A [] (λk=>k=w.heap.size+1) ((w.alloc (.cells (au F A) 61)).alloc (.cells #[.slice none 0 0] 298))):=hM
 clear hB hn hS hM hr K9 hg
 clear g
 go_enter Tryz.func208,Tryz.ntmps208
 go_upto_region 2 with fail
 generalize (w.alloc (Obj.cells (au F A) 61)).alloc (Obj.cells #[Value.slice none 0 0] 298)=X0 at *
 generalize (λk=>k=w.heap.size+1)=G0 at *
 obtain⟨B0,hB0⟩:∃ B:List Bool,B=[]:=⟨_,rfl⟩
 rw[<-hB0] at nG oH
 have EB0:Hid (B0=[]):=hB0
 clear hB0
 have hp:=dn X0 (w.heap.size+1) B0 G0 nG.out.obj F.k 4 HI.out.k.1 (by omega) (by have:=HI.out.k;omega) (by have:=oH.out;omega)
 have hw0:IntKind.u64.wrap F.k=F.k:=by rw[IntKind.wrap_u64];have:=HI.out.k;omega
 have cc:=nG.out.fr.c0
 go_wp2_with fail
 refine hp.mono ?_
 rintro e X1 ⟨rfl,hL⟩
 obtain⟨B1,eB1⟩:∃ B,B=B0++az F.k.toNat 4:=⟨_,rfl⟩
 rw[<-eB1] at hL
 obtain⟨G1,hM⟩:=nG.out.step HS.out hL
 have ou:Hid (kY w (w.heap.size+1) F A B1 G1 X1):=hM
 have qN:Hid (B1.length<=4):=by have:=oH.out;show _<=_;rw[eB1,List.length_append,ak];omega
 have EB1:Hid (B1=B0++az F.k.toNat 4):=eB1
 clear hp hL hM cc eB1 hw0
 have hp:=dn X1 (w.heap.size+1) B1 G1 ou.out.obj F.f 4 HI.out.f.1 (by omega) (by have:=HI.out.f;omega) (by have:=qN.out;omega)
 have hw0:IntKind.u64.wrap F.f=F.f:=by rw[IntKind.wrap_u64];have:=HI.out.f;omega
 have cc:=ou.out.fr.c1
 go_wp2_with fail
 refine hp.mono ?_
 rintro e X2 ⟨rfl,hL⟩
 obtain⟨B2,eB2⟩:∃ B,B=B1++az F.f.toNat 4:=⟨_,rfl⟩
 rw[<-eB2] at hL
 obtain⟨G2,hM⟩:=ou.out.step HS.out hL
 have ja:Hid (kY w (w.heap.size+1) F A B2 G2 X2):=hM
 have HL2:Hid (B2.length<=8):=by have:=qN.out;show _<=_;rw[eB2,List.length_append,ak];omega
 have EB2:Hid (B2=B1++az F.f.toNat 4):=eB2
 clear hp hL hM cc eB2 hw0
 have c0:=ja.out.fr.c0
 by_cases k1:F.k=1
 ·have g1:(F.k==1)=true:=by simp[k1]
  have Jg:Hid (F.key.length=16):=SF.out (.inl k1)
  have K1:Hid (F.k=1):=k1
  clear k1 hk3
  have hp:=dn X2 (w.heap.size+1) B2 G2 ja.out.obj F.e 16 HI.out.e.1 (by omega) (by have:=HI.out.e;omega) (by have:=HL2.out;omega)
  have hw0:IntKind.u64.wrap F.e=F.e:=by rw[IntKind.wrap_u64];have:=HI.out.e;omega
  have cc:=ja.out.fr.c3
  go_wp2_with fail
  refine hp.mono ?_
  rintro e X3 ⟨rfl,hL⟩
  obtain⟨B3,GH⟩:∃ B,B=B2++az F.e.toNat 16:=⟨_,rfl⟩
  rw[<-GH] at hL
  obtain⟨G3,hM⟩:=ja.out.step HS.out hL
  have nP:Hid (kY w (w.heap.size+1) F A B3 G3 X3):=hM
  have MP:Hid (B3.length<=24):=by have:=HL2.out;show _<=_;rw[GH,List.length_append,ak];omega
  have WT:Hid (B3=B2++az F.e.toNat 16):=GH
  clear hp hL hM cc GH hw0
  have hp:=dn X3 (w.heap.size+1) B3 G3 nP.out.obj F.r 24 HI.out.r.1 (by omega) (by have:=HI.out.r;omega) (by have:=MP.out;omega)
  have hw0:IntKind.u64.wrap F.r=F.r:=by rw[IntKind.wrap_u64];have:=HI.out.r;omega
  have cc:=nP.out.fr.c5
  go_wp2_with fail
  refine hp.mono ?_
  rintro e X4 ⟨rfl,hL⟩
  obtain⟨B4,GI⟩:∃ B,B=B3++az F.r.toNat 24:=⟨_,rfl⟩
  rw[<-GI] at hL
  obtain⟨G4,hM⟩:=nP.out.step HS.out hL
  have oI:Hid (kY w (w.heap.size+1) F A B4 G4 X4):=hM
  have QL:Hid (B4.length<=48):=by have:=MP.out;show _<=_;rw[GI,List.length_append,ak];omega
  have WU:Hid (B4=B3++az F.r.toNat 24):=GI
  clear hp hL hM cc GI hw0
  have hp:=dn X4 (w.heap.size+1) B4 G4 oI.out.obj F.v 8 HI.out.v.1 (by omega) (by have:=HI.out.v;omega) (by have:=QL.out;omega)
  have hw0:IntKind.u64.wrap F.v=F.v:=by rw[IntKind.wrap_u64];have:=HI.out.v;omega
  have cc:=oI.out.fr.c8
  go_wp2_with fail
  refine hp.mono ?_
  rintro e X5 ⟨rfl,hL⟩
  obtain⟨B5,QM⟩:∃ B,B=B4++az F.v.toNat 8:=⟨_,rfl⟩
  rw[<-QM] at hL
  obtain⟨G5,hM⟩:=oI.out.step HS.out hL
  have qx:Hid (kY w (w.heap.size+1) F A B5 G5 X5):=hM
  have WV:Hid (B5.length<=56):=by have:=QL.out;show _<=_;rw[QM,List.length_append,ak];omega
  have EB5:Hid (B5=B4++az F.v.toNat 8):=QM
  clear hp hL hM cc QM hw0
  have hp:=GG X5 (w.heap.size+1) F A B5 G5 qx.out.obj qx.out.seen (qx.out.clears HS.out) HI.out.i Jg.out (by have:=WV.out;omega)
  have rV:Hid ((Instr.loadAt 61 (.pointer (some ⟨w.heap.size,0,none⟩))).run Tryz.prog X5=.ok (.agg (au F A)) X5):=qx.out.fr.loads
  go_wp2_with (first|(refine af rfl 61 _ rfl _ _ rfl rV.out ?_)|fail)
  refine hp.mono ?_
  rintro e X6 ⟨⟨r6,rfl⟩,hL⟩
  obtain⟨B6,QN⟩:∃ B,B=B5++az F.i.toNat 16++bitsOf F.key:=⟨_,rfl⟩
  rw[<-QN] at hL
  obtain⟨G6,hM⟩:=qx.out.step HS.out hL
  have vM:Hid (kY w (w.heap.size+1) F A B6 G6 X6):=hM
  have WW:Hid (B6.length<=200):=by have:=WV.out;have:=Jg.out;show _<=_;rw[QN,List.length_append,List.length_append,ak,aC];omega
  have EB6:Hid (B6=B5++az F.i.toNat 16++bitsOf F.key):=QN
  clear hp hL hM QN rV
  have hp:=dn X6 (w.heap.size+1) B6 G6 vM.out.obj ((F.body.length:Nat):Int) 5 (Int.natCast_nonneg _) (by omega) (by have:=K7.out;omega) (by have:=WW.out;omega)
  rw[Int.toNat_natCast] at hp
  have hw0:IntKind.u64.wrap ((F.body.length:Nat):Int)=((F.body.length:Nat):Int):=by rw[IntKind.wrap_u64];have:=K7.out;omega
  have cc:=vM.out.fr.c11
  go_wp2_with fail
  refine hp.mono ?_
  rintro e X7 ⟨rfl,hL⟩
  obtain⟨B7,QO⟩:∃ B,B=B6++az F.body.length 5:=⟨_,rfl⟩
  rw[<-QO] at hL
  obtain⟨G7,hM⟩:=vM.out.step HS.out hL
  have yT:Hid (kY w (w.heap.size+1) F A B7 G7 X7):=hM
  have GJ:Hid (B7.length<=205):=by have:=WW.out;show _<=_;rw[QO,List.length_append,ak];omega
  have EB7:Hid (B7=B6++az F.body.length 5):=QO
  clear hp hL hM cc QO hw0
  have hp:=uP X7 (w.heap.size+1) B7 G7 yT.out.obj A.ba A.bc F.body yT.out.seen.body (yT.out.clears HS.out).body (by have:=K7.out;omega) (by have:=K7.out;have:=GJ.out;omega)
  have cc:=yT.out.fr.c11
  go_wp2_with fail
  refine hp.mono ?_
  rintro e X8 ⟨rfl,hL⟩
  obtain⟨B8,SG⟩:∃ B,B=B7++bitsOf F.body:=⟨_,rfl⟩
  rw[<-SG] at hL
  obtain⟨G8,hM⟩:=yT.out.step HS.out hL
  have Jv:Hid (kY w (w.heap.size+1) F A B8 G8 X8):=hM
  have EB8:Hid (B8=B7++bitsOf F.body):=SG
  clear hp hL hM cc SG
  have hE:B8=aU F:=by
   rw[hcb]
   unfold fV
   rw[if_pos K1.out]
   unfold oP
   rw[EB8.out,EB7.out,EB6.out,EB5.out,WU.out,WT.out,EB2.out,EB1.out,EB0.out]
   simp only[List.append_assoc,List.nil_append]
  have HE:Hid (RW X8 (w.heap.size+1) (aU F) G8/\(∀ k,G8 k->w.heap.size<=k)/\Below w.heap.size w X8):=⟨by rw[<-hE];exact Jv.out.obj,λk hk=>Nat.le_of_lt (Jv.out.above k hk),Jv.out.aM⟩
  clear hE
  go_wp2
  go_ret
  exact⟨_,G8,rfl,HE.out⟩
 ·have g1:(F.k==1)=false:=by simp[k1]
  by_cases k2:F.k=2
  ·have g2:(F.k==2)=true:=by simp[k2]
   have K1:Hid (¬ F.k=1):=k1
   have K2:Hid (F.k=2):=k2
   clear k1 k2 hk3
   have hp:=dn X2 (w.heap.size+1) B2 G2 ja.out.obj F.t 4 HI.out.t.1 (by omega) (by have:=HI.out.t;omega) (by have:=HL2.out;omega)
   have hw0:IntKind.u64.wrap F.t=F.t:=by rw[IntKind.wrap_u64];have:=HI.out.t;omega
   have cc:=ja.out.fr.c2
   go_wp2_with fail
   refine hp.mono ?_
   rintro e X3 ⟨rfl,hL⟩
   obtain⟨B3,GH⟩:∃ B,B=B2++az F.t.toNat 4:=⟨_,rfl⟩
   rw[<-GH] at hL
   obtain⟨G3,hM⟩:=ja.out.step HS.out hL
   have nP:Hid (kY w (w.heap.size+1) F A B3 G3 X3):=hM
   have MP:Hid (B3.length<=12):=by have:=HL2.out;show _<=_;rw[GH,List.length_append,ak];omega
   have WT:Hid (B3=B2++az F.t.toNat 4):=GH
   clear hp hL hM cc GH hw0
   have hp:=dn X3 (w.heap.size+1) B3 G3 nP.out.obj ((F.n:Nat):Int) 64 (Int.natCast_nonneg _) (by omega) (by have:=HN.out;omega) (by have:=MP.out;omega)
   rw[Int.toNat_natCast] at hp
   have cc:=nP.out.fr.c6
   go_wp2_with fail
   refine hp.mono ?_
   rintro e X4 ⟨rfl,hL⟩
   obtain⟨B4,GI⟩:∃ B,B=B3++az F.n 64:=⟨_,rfl⟩
   rw[<-GI] at hL
   obtain⟨G4,hM⟩:=nP.out.step HS.out hL
   have oI:Hid (kY w (w.heap.size+1) F A B4 G4 X4):=hM
   have QL:Hid (B4.length<=76):=by have:=MP.out;show _<=_;rw[GI,List.length_append,ak];omega
   have WU:Hid (B4=B3++az F.n 64):=GI
   clear hp hL hM cc GI
   have hE:B4=aU F:=by
    rw[hcb]
    unfold fV
    rw[if_neg K1.out,if_pos K2.out]
    unfold iy
    rw[WU.out,WT.out,EB2.out,EB1.out,EB0.out]
    simp only[List.append_assoc,List.nil_append]
   have HE:Hid (RW X4 (w.heap.size+1) (aU F) G4/\(∀ k,G4 k->w.heap.size<=k)/\Below w.heap.size w X4):=⟨by rw[<-hE];exact oI.out.obj,λk hk=>Nat.le_of_lt (oI.out.above k hk),oI.out.aM⟩
   clear hE
   go_wp2
   go_ret
   exact⟨_,G4,rfl,HE.out⟩
  ·have g2:(F.k==2)=false:=by simp[k2]
   have Jg:Hid (F.key.length=16):=SF.out (.inr (by omega))
   have K1:Hid (¬ F.k=1):=k1
   have K2:Hid (¬ F.k=2):=k2
   clear k1 k2 hk3
   have hp:=dn X2 (w.heap.size+1) B2 G2 ja.out.obj F.t 4 HI.out.t.1 (by omega) (by have:=HI.out.t;omega) (by have:=HL2.out;omega)
   have hw0:IntKind.u64.wrap F.t=F.t:=by rw[IntKind.wrap_u64];have:=HI.out.t;omega
   have cc:=ja.out.fr.c2
   go_wp2_with fail
   refine hp.mono ?_
   rintro e X3 ⟨rfl,hL⟩
   obtain⟨B3,GH⟩:∃ B,B=B2++az F.t.toNat 4:=⟨_,rfl⟩
   rw[<-GH] at hL
   obtain⟨G3,hM⟩:=ja.out.step HS.out hL
   have nP:Hid (kY w (w.heap.size+1) F A B3 G3 X3):=hM
   have MP:Hid (B3.length<=12):=by have:=HL2.out;show _<=_;rw[GH,List.length_append,ak];omega
   have WT:Hid (B3=B2++az F.t.toNat 4):=GH
   clear hp hL hM cc GH hw0
   have hp:=dn X3 (w.heap.size+1) B3 G3 nP.out.obj ((F.n:Nat):Int) 64 (Int.natCast_nonneg _) (by omega) (by have:=HN.out;omega) (by have:=MP.out;omega)
   rw[Int.toNat_natCast] at hp
   have cc:=nP.out.fr.c6
   go_wp2_with fail
   refine hp.mono ?_
   rintro e X4 ⟨rfl,hL⟩
   obtain⟨B4,GI⟩:∃ B,B=B3++az F.n 64:=⟨_,rfl⟩
   rw[<-GI] at hL
   obtain⟨G4,hM⟩:=nP.out.step HS.out hL
   have oI:Hid (kY w (w.heap.size+1) F A B4 G4 X4):=hM
   have QL:Hid (B4.length<=76):=by have:=MP.out;show _<=_;rw[GI,List.length_append,ak];omega
   have WU:Hid (B4=B3++az F.n 64):=GI
   clear hp hL hM cc GI
   have hp:=dn X4 (w.heap.size+1) B4 G4 oI.out.obj F.m 48 HI.out.m.1 (by omega) (by have:=HI.out.m;omega) (by have:=QL.out;omega)
   have hw0:IntKind.u64.wrap F.m=F.m:=by rw[IntKind.wrap_u64];have:=HI.out.m;omega
   have cc:=oI.out.fr.c7
   go_wp2_with fail
   refine hp.mono ?_
   rintro e X5 ⟨rfl,hL⟩
   obtain⟨B5,QM⟩:∃ B,B=B4++az F.m.toNat 48:=⟨_,rfl⟩
   rw[<-QM] at hL
   obtain⟨G5,hM⟩:=oI.out.step HS.out hL
   have qx:Hid (kY w (w.heap.size+1) F A B5 G5 X5):=hM
   have WV:Hid (B5.length<=124):=by have:=QL.out;show _<=_;rw[QM,List.length_append,ak];omega
   have EB5:Hid (B5=B4++az F.m.toNat 48):=QM
   clear hp hL hM cc QM hw0
   have hp:=dn X5 (w.heap.size+1) B5 G5 qx.out.obj F.e 16 HI.out.e.1 (by omega) (by have:=HI.out.e;omega) (by have:=WV.out;omega)
   have hw0:IntKind.u64.wrap F.e=F.e:=by rw[IntKind.wrap_u64];have:=HI.out.e;omega
   have cc:=qx.out.fr.c3
   go_wp2_with fail
   refine hp.mono ?_
   rintro e X6 ⟨rfl,hL⟩
   obtain⟨B6,QN⟩:∃ B,B=B5++az F.e.toNat 16:=⟨_,rfl⟩
   rw[<-QN] at hL
   obtain⟨G6,hM⟩:=qx.out.step HS.out hL
   have vM:Hid (kY w (w.heap.size+1) F A B6 G6 X6):=hM
   have WW:Hid (B6.length<=140):=by have:=WV.out;show _<=_;rw[QN,List.length_append,ak];omega
   have EB6:Hid (B6=B5++az F.e.toNat 16):=QN
   clear hp hL hM cc QN hw0
   have hp:=dn X6 (w.heap.size+1) B6 G6 vM.out.obj F.s 24 HI.out.s.1 (by omega) (by have:=HI.out.s;omega) (by have:=WW.out;omega)
   have hw0:IntKind.u64.wrap F.s=F.s:=by rw[IntKind.wrap_u64];have:=HI.out.s;omega
   have cc:=vM.out.fr.c4
   go_wp2_with fail
   refine hp.mono ?_
   rintro e X7 ⟨rfl,hL⟩
   obtain⟨B7,QO⟩:∃ B,B=B6++az F.s.toNat 24:=⟨_,rfl⟩
   rw[<-QO] at hL
   obtain⟨G7,hM⟩:=vM.out.step HS.out hL
   have yT:Hid (kY w (w.heap.size+1) F A B7 G7 X7):=hM
   have GJ:Hid (B7.length<=164):=by have:=WW.out;show _<=_;rw[QO,List.length_append,ak];omega
   have EB7:Hid (B7=B6++az F.s.toNat 24):=QO
   clear hp hL hM cc QO hw0
   have hp:=GG X7 (w.heap.size+1) F A B7 G7 yT.out.obj yT.out.seen (yT.out.clears HS.out) HI.out.i Jg.out (by have:=GJ.out;omega)
   have rV:Hid ((Instr.loadAt 61 (.pointer (some ⟨w.heap.size,0,none⟩))).run Tryz.prog X7=.ok (.agg (au F A)) X7):=yT.out.fr.loads
   go_wp2_with (first|(refine af rfl 61 _ rfl _ _ rfl rV.out ?_)|fail)
   refine hp.mono ?_
   rintro e X8 ⟨⟨r8,rfl⟩,hL⟩
   obtain⟨B8,SG⟩:∃ B,B=B7++az F.i.toNat 16++bitsOf F.key:=⟨_,rfl⟩
   rw[<-SG] at hL
   obtain⟨G8,hM⟩:=yT.out.step HS.out hL
   have Jv:Hid (kY w (w.heap.size+1) F A B8 G8 X8):=hM
   have HL8:Hid (B8.length<=308):=by have:=GJ.out;have:=Jg.out;show _<=_;rw[SG,List.length_append,List.length_append,ak,aC];omega
   have EB8:Hid (B8=B7++az F.i.toNat 16++bitsOf F.key):=SG
   clear hp hL hM SG rV
   have hE:B8=aU F:=by
    rw[hcb]
    unfold fV
    rw[if_neg K1.out,if_neg K2.out]
    unfold oO iy
    rw[EB8.out,EB7.out,EB6.out,EB5.out,WU.out,WT.out,EB2.out,EB1.out,EB0.out]
    simp only[List.append_assoc,List.nil_append]
   have HE:Hid (RW X8 (w.heap.size+1) (aU F) G8/\(∀ k,G8 k->w.heap.size<=k)/\Below w.heap.size w X8):=⟨by rw[<-hE];exact Jv.out.obj,λk hk=>Nat.le_of_lt (Jv.out.above k hk),Jv.out.aM⟩
   clear hE
   go_wp2
   go_ret
   exact⟨_,G8,rfl,HE.out⟩
theorem Ck (F:Fr)(hn:F.n<18446744073709551616)(hr:bH F=true):(aU F).length<=333:=(rD F hn hr).2
def Ez (F:Fr):Fr:={ F with tag:=List.replicate 8 0 }
theorem EA (F:Fr):dw (Ez F)=bH F:=by
 have h1:bH (Ez F)=bH F:=rfl
 unfold dw
 rw[h1]
 simp[Ez]
theorem EB (w:World)(F:Fr)(A:At):∃ W,(Instr.storeAt 61 (.pointer (some ⟨w.heap.size+1,0,none⟩)) (.agg (au F A))).run Tryz.prog ((w.alloc (.cells (au F A) 61)).alloc (.cells (au Fr.zero At.zero) 61))=.ok () W /\
  W.heap.size=w.heap.size+2/\aj W w.heap.size F A/\aj W (w.heap.size+1) F A/\Below w.heap.size w W:=by
 obtain⟨h1,h2⟩:=wK w F A Fr.zero At.zero
 exact⟨_,h2.stores _ _,by simp,h1.keep (setRow_other _ _ _ _ (by omega)),h2.stored _ _,below_setRow (Go.Joins.below_alloc2 _ _ _) (by omega) _⟩
theorem Jw (w W1:World)(F:Fr)(A:At)(hF:Seen w F A)(x:Nat)(hx:w.heap.size+2<=x)(h1:aj W1 w.heap.size F A)(h2:aj W1 (w.heap.size+1) F A)(hb:Below w.heap.size w W1)(ho:ag W1 (some ⟨x,0,none⟩) 8 (List.replicate 8 (0:UInt8))):
  aj (W1.setCell ⟨w.heap.size+1,12,none⟩ (.slice (some ⟨x,0,none⟩) 8 8)) w.heap.size F A/\aj (W1.setCell ⟨w.heap.size+1,12,none⟩ (.slice (some ⟨x,0,none⟩) 8 8)) (w.heap.size+1) (Ez F) { A with ta:=some ⟨x,0,none⟩,tc:=8 } /\
   Seen (W1.setCell ⟨w.heap.size+1,12,none⟩ (.slice (some ⟨x,0,none⟩) 8 8)) (Ez F) { A with ta:=some ⟨x,0,none⟩,tc:=8 }/\Below w.heap.size w (W1.setCell ⟨w.heap.size+1,12,none⟩ (.slice (some ⟨x,0,none⟩) 8 8)):=by
 have hbv:Below w.heap.size w (W1.setCell ⟨w.heap.size+1,12,none⟩ (.slice (some ⟨x,0,none⟩) 8 8)):=hb.setCell (p:=⟨w.heap.size+1,12,none⟩) (by simp) _
 refine⟨h1.keep (heap_setCell_other _ _ _ _ (by simp)),h2.put 12 _ rfl,⟨hF.key.below hbv,hF.body.below hbv,?_⟩,hbv⟩
 exact ho.set _ (λb off e _=>by cases e;omega)
theorem Jy (w:World)(F:Fr)(A:At)(hF:Seen w F A)(hn:F.n<18446744073709551616):
  Calls Tryz.prog 184 #[.agg (au F A)] w λe w'=>(bH F=true->∃ d cd r,Hid (r=mY F)/\e=.returned (.tuple #[.slice d r.length cd,.int .i64 0])/\ag w' d cd r/\Below w.heap.size w w') /\
   (bH F=false->e=.returned (.tuple #[.slice none 0 0,.int .i64 1])/\Below w.heap.size w w'):=by
 obtain⟨W,hst,hsz,h1,h2,hb⟩:=EB w F A
 have HL:Hid ((Instr.loadAt 61 (.pointer (some ⟨w.heap.size,0,none⟩))).run Tryz.prog (w.alloc (.cells (au F A) 61))=.ok (.agg (au F A)) (w.alloc (.cells (au F A) 61))):=(aj.new w F A).loads
 have HST:Hid ((Instr.storeAt 61 (.pointer (some ⟨w.heap.size+1,0,none⟩)) (.agg (au F A))).run Tryz.prog ((w.alloc (.cells (au F A) 61)).alloc (.cells (au Fr.zero At.zero) 61))=.ok () W):=hst
 have c12:=h2.c12
 have z12:=h2.fz 12
 have H0:Hid (aj W w.heap.size F A/\aj W (w.heap.size+1) F A/\Below w.heap.size w W):=⟨h1,h2,hb⟩
 have HF:Hid (Seen w F A/\F.n<18446744073709551616):=⟨hF,hn⟩
 obtain⟨i5,hi,hz0,hz1,hz2⟩:=info_parts Tryz.info5
 have Au:Hid (W.heap.size=w.heap.size+2):=hsz
 clear hst h1 h2 hb hF hn hsz c12 z12
 go_enter Tryz.func184,Tryz.ntmps184
 go_wp2_with (first|(refine af rfl 61 _ rfl _ _ rfl HL.out ?_)|(refine ah rfl 61 _ _ rfl _ _ rfl rfl HST.out ?_)|(at_make;refine wpList_make_full _ rfl _ _ 24 rfl W.heap.size 5 i5 (.int .u8 0) 1 Tryz.underlying24 hi hz0 hz1 .i64 .i64 _ _ 8 rfl rfl rfl rfl ?b2 ?b3 ?b4 ?_))
 case b2=>rw[hz2];decide
 case b3=>decide
 case b4=>exact Nat.le_refl _
 intro W1 hown hgr
 have hb1:Below W.heap.size W W1:=(Below.refl _ _).grown hgr (Nat.le_refl _) (by simp)
 have hown2:W1.ownsRow W.heap.size 5 1 (.slice (some ⟨W.heap.size,0,none⟩) 8 8) 8 ((List.replicate 8 (0:UInt8)).map cellOf):=by
  rw[<-jk];simpa using hown
 have nR:ag W1 (some ⟨W.heap.size,0,none⟩) 8 (List.replicate 8 (0:UInt8)):=by
  obtain⟨a,cap,he,h⟩:=ag.bA hown2
  cases he
  exact h
 have h1:=H0.out.1.below hb1
 have h2:=H0.out.2.1.below hb1
 have hbw:Below w.heap.size w W1:=H0.out.2.2.trans (hb1.mono H0.out.2.2.size)
 have c12:=h2.c12
 have z12:=h2.fz 12
 obtain⟨k1,k2,k3,k4⟩:=Jw w W1 F A HF.out.1 W.heap.size (by have:=Au.out;omega) h1 h2 hbw nR
 obtain⟨V,hV⟩:=ai (W1.setCell ⟨w.heap.size+1,12,none⟩ (.slice (some ⟨W.heap.size,0,none⟩) 8 8))
 obtain⟨A2,hA2⟩:=ai ({ A with ta:=some ⟨W.heap.size,0,none⟩,tc:=8 }:At)
 rw[<-hV] at k1 k2 k3 k4
 rw[<-hA2] at k2 k3
 have hck:=yX V (Ez F) A2 k3
 rw[EA] at hck
 have HL2:Hid ((Instr.loadAt 61 (.pointer (some ⟨w.heap.size+1,0,none⟩))).run Tryz.prog V=.ok (.agg (au (Ez F) A2)) V):=k2.loads
 have H3:Hid (aj V w.heap.size F A/\Below w.heap.size w V):=⟨k1,k4⟩
 have HV:Hid (V=W1.setCell ⟨w.heap.size+1,12,none⟩ (.slice (some ⟨W.heap.size,0,none⟩) 8 8)):=hV
 clear hown hgr hown2 nR h1 h2 hbw k1 k2 k3 k4 hA2 hV H0 HL HST hi hz0 hz1 hz2 hb1
 go_upto_region 3 with fail
 clear c12 z12
 rw[<-HV.out]
 clear HV
 obtain⟨bc,hbc⟩:∃ b,bH F=b:=⟨_,rfl⟩
 have HBC:Hid (bH F=bc):=hbc
 rw[hbc] at hck
 clear hbc
 cases bc
 ·rw[if_neg (by decide)] at hck
  go_wp2_with (first|(refine af rfl 61 _ rfl _ _ rfl HL2.out ?_)|fail)
  refine hck.mono ?_
  rintro e w1 ⟨rfl,hb⟩
  have HE:Hid (Below w.heap.size w w1):=H3.out.2.trans (hb.mono H3.out.2.size)
  clear hck hb H3 HL2
  go_wp2
  go_ret2
  exact⟨λh=>(by rw[HBC.out] at h;cases h),λ_=>⟨rfl,HE.out⟩⟩
 ·rw[if_pos rfl] at hck
  go_wp2_with (first|(refine af rfl 61 _ rfl _ _ rfl HL2.out ?_)|fail)
  refine hck.mono ?_
  rintro e w1 ⟨rfl,hb⟩
  have H4:Hid (aj w1 w.heap.size F A/\Below w.heap.size w w1):=⟨H3.out.1.below hb,H3.out.2.trans (hb.mono H3.out.2.size)⟩
  have QL:Hid ((Instr.loadAt 61 (.pointer (some ⟨w.heap.size,0,none⟩))).run Tryz.prog w1=.ok (.agg (au F A)) w1):=H4.out.1.loads
  have hco:=Nb w1 F A (HF.out.1.below H4.out.2) HF.out.2 HBC.out
  clear hck hb H3 HL2
  go_wp2_with (first|(refine af rfl 61 _ rfl _ _ rfl QL.out ?_)|fail)
  refine hco.mono ?_
  rintro e w2 ⟨g,G,rfl,hRW,_,hb2⟩
  have hdn:=IP w2 g _ G hRW (by have:=Ck F HF.out.2 HBC.out;omega)
  have H5:Hid (Below w.heap.size w w2):=H4.out.2.trans (hb2.mono H4.out.2.size)
  clear hco hRW hb2 QL H4
  go_wp2_with fail
  refine hdn.mono ?_
  rintro e w5 ⟨d5,c5,r5,kz,rfl,hs5,hb5⟩
  have HE:Hid (Hid (r5=mY F)/\ag w5 d5 c5 r5/\Below w.heap.size w w5):=⟨kz,hs5,H5.out.trans (hb5.mono H5.out.size)⟩
  clear hdn kz hs5 hb5 H5
  go_wp2
  go_ret2
  exact⟨λ_=>⟨d5,c5,r5,HE.out.1,rfl,HE.out.2⟩,λh=>(by rw[HBC.out] at h;cases h)⟩
def um (F:Fr):List UInt8:=if bH F=true then mY F else []
def yY (F:Fr):Int:=if bH F=true then 0 else 1
def Av (w w':World)(e:Ending)(l:List UInt8)(n:Int):Prop:=∃ d cd,e=.returned (.tuple #[.slice d l.length cd,.int .i64 n])/\ag w' d cd l/\Below w.heap.size w w'
theorem wR (w:World)(F:Fr)(A:At)(hF:Seen w F A)(hn:F.n<18446744073709551616):Calls Tryz.prog 184 #[.agg (au F A)] w λe w'=>Av w w' e (um F) (yY F):=by
 unfold um yY
 refine(Jy w F A hF hn).mono ?_
 rintro e w' ⟨h1,h2⟩
 by_cases h:bH F=true
 ·rw[if_pos h,if_pos h]
  obtain⟨d,cd,r,hr,rfl,hs,hb⟩:=h1 h
  have hr':=hr.out
  subst hr'
  exact⟨d,cd,rfl,hs,hb⟩
 ·rw[if_neg h,if_neg h]
  obtain⟨rfl,hb⟩:=h2 (by simpa using h)
  exact⟨none,0,rfl,ag.nil' _,hb⟩
end Go.Proofs.YtmffplhaclnehaaGreatDoor
