/- A helper. -/
import Derived.Test.YtmffplhaclnehaaGreatDoorFrameC
import Derived.Test.YtmffplhaclnehaaGreatDoorFrameD
namespace Go.Proofs.YtmffplhaclnehaaGreatDoor
set_option maxRecDepth 20000
set_option maxHeartbeats 3200000
open Go.ChangeShapes Go.WideShapes Go.ChangeAt Go.RowKit
variable {w W:World} {l:List UInt8}
theorem Jz (l:List UInt8):uj (λs (_:Nat) V=>bq l s V) (λs (_:Nat) V=>bE l s V) (λs (_:List UInt8) n=>iZ l s n) (λs (_:List UInt8) n=>eX l s n) ⟨0,false⟩ Fr.zero=aD l:=rfl
theorem Nc:gy Fr.zero:=⟨by decide,by decide,by decide,by decide,by decide,by decide,by decide,by decide,by decide,by decide⟩
theorem dM (w:World):(Instr.build 61 #[]).run Tryz.prog w=.ok (.agg (au Fr.zero At.zero)) w:=run_build w 61 _ _ (by kernel_rfl)
def SH (w w':World)(e:Ending)(F:Fr)(n:Int):Prop:=∃ A,e=.returned (.tuple #[.agg (au F A),.int .i64 n])/\Seen w' F A/\Below w.heap.size w w'
theorem dD (h:aj W w.heap.size Fr.zero At.zero)(hb:Below w.heap.size w W)(F:Fr)(A:At)(hs:Seen W F A):
  ∃ W',(Instr.storeAt 61 (.pointer (some ⟨w.heap.size,0,none⟩)) (.agg (au F A))).run Tryz.prog W=.ok () W'/\aj W' w.heap.size F A/\Seen W' F A/\Below w.heap.size w W':=by
 have hk:∀ (x:Option Addr) (c:Nat) (l:List UInt8),ag W x c l->ag (W.setRow w.heap.size (au F A)) x c l:=λx c l hs=>
  ⟨hs.fits, hs.room, hs.bare, fun hne => by
    obtain ⟨b', off, ha, hc⟩ := hs.at' hne
    refine ⟨b', off, ha, fun k y hy => ?_⟩
    rw [World.cell?_of_block (w := W) (setRow_other _ _ _ _ (h.apart hs b' off ha hne)), hc k y hy]⟩
 exact⟨_,h.stores F A,h.stored F A,⟨hk _ _ _ hs.key,hk _ _ _ hs.body,hk _ _ _ hs.tag⟩,below_setRow hb (Nat.le_refl _) _⟩
theorem nT (h:l.length<3):iH l=3:=if_pos h
theorem sP (h:¬ l.length<3)(hg:iQ l=false):iH l=8:=by unfold iH;rw[if_neg h,if_pos hg]
theorem pF (h:iH l≠0):aX l=Fr.zero:=if_neg h
theorem JA (w:World)(x:Option Addr)(cx:Nat)(l:List UInt8)(h3:l.length<3):Calls Tryz.prog 28 #[.slice x l.length cx] w λe w'=>SH w w' e Fr.zero 3:=by
 obtain⟨N,hN⟩:=ai l.length
 rw[<-hN] at h3 ⊢
 have d3:decide ((N:Int)<3)=true:=by simp;omega
 have h0:aj (w.alloc (.cells (au Fr.zero At.zero) 61)) w.heap.size Fr.zero At.zero:=aj.new w _ _
 obtain⟨W,hst,hW,hs,hb⟩:=dD h0 (Go.Joins.below_alloc1 _ _) Fr.zero At.zero (Seen.zero _)
 have HB:Hid ((Instr.build 61 #[]).run Tryz.prog (w.alloc (.cells (au Fr.zero At.zero) 61))=.ok (.agg (au Fr.zero At.zero)) (w.alloc (.cells (au Fr.zero At.zero) 61))):=dM _
 have HST:Hid ((Instr.storeAt 61 (.pointer (some ⟨w.heap.size,0,none⟩)) (.agg (au Fr.zero At.zero))).run Tryz.prog (w.alloc (.cells (au Fr.zero At.zero) 61))=.ok () W):=hst
 have HE:Hid (aj W w.heap.size Fr.zero At.zero/\Seen W Fr.zero At.zero/\Below w.heap.size w W):=⟨hW,hs,hb⟩
 clear hN h0 hst hW hs hb
 go_enter Tryz.func28,Tryz.ntmps28
 go_wp2_with (first|(refine aB rfl 61 _ rfl [] _ rfl HB.out ?_)|(refine ah rfl 61 _ _ rfl _ _ rfl rfl HST.out ?_)|fail)
 refine bodyPost_ret (dz rfl rfl HE.out.1) rfl ?_
 exact⟨At.zero,rfl,HE.out.2⟩
theorem QS (w:World)(x:Option Addr)(cx:Nat)(l:List UInt8)(hx:ag w x cx l)(hl:l.length<=140737488351232)(h3:¬ l.length<3)(hg:iQ l=false):Calls Tryz.prog 28 #[.slice x l.length cx] w λe w'=>SH w w' e Fr.zero 8:=by
 have h0:aj (w.alloc (.cells (au Fr.zero At.zero) 61)) w.heap.size Fr.zero At.zero:=aj.new w _ _
 have hb0:Below w.heap.size w (w.alloc (.cells (au Fr.zero At.zero) 61)):=Go.Joins.below_alloc1 _ _
 have hgo:=Gu (w.alloc (.cells (au Fr.zero At.zero) 61)) x cx l (hx.below hb0) (by omega)
 rw[hg] at hgo
 obtain⟨N,hN⟩:=ai l.length
 rw[<-hN] at h3 hgo hl ⊢
 have d3:decide ((N:Int)<3)=false:=by simp;omega
 have H0:Hid (∀ w1,Below (w.alloc (.cells (au Fr.zero At.zero) 61)).heap.size (w.alloc (.cells (au Fr.zero At.zero) 61)) w1->aj w1 w.heap.size Fr.zero At.zero/\Below w.heap.size w w1):=λw1 hb1=>⟨h0.below hb1,hb0.trans (hb1.mono hb0.size)⟩
 clear hN h0 hb0 hx hg
 go_enter Tryz.func28,Tryz.ntmps28
 go_wp2_with fail
 refine hgo.mono ?_
 rintro e w1 ⟨rfl,hb1⟩
 obtain⟨h1,hb⟩:=H0.out w1 hb1
 obtain⟨W,hst,hW,hs,hbW⟩:=dD h1 hb Fr.zero At.zero (Seen.zero _)
 have HB:Hid ((Instr.build 61 #[]).run Tryz.prog w1=.ok (.agg (au Fr.zero At.zero)) w1):=dM _
 have HST:Hid ((Instr.storeAt 61 (.pointer (some ⟨w.heap.size,0,none⟩)) (.agg (au Fr.zero At.zero))).run Tryz.prog w1=.ok () W):=hst
 have HE:Hid (aj W w.heap.size Fr.zero At.zero/\Seen W Fr.zero At.zero/\Below w.heap.size w W):=⟨hW,hs,hbW⟩
 clear hgo hb1 H0 h1 hb hst hW hs hbW
 go_wp2_with (first|(refine aB rfl 61 _ rfl [] _ rfl HB.out ?_)|(refine ah rfl 61 _ _ rfl _ _ rfl rfl HST.out ?_)|fail)
 refine bodyPost_ret (dz rfl rfl HE.out.1) rfl ?_
 exact⟨At.zero,rfl,HE.out.2⟩
theorem Nf (l:List UInt8)(w:World)(c:Nat)(Fc:Nat->Prop)(h:rR l w c 0 Fc)(hl:l.length<=140737488355328):
  wP l c (w.alloc (.cells #[.pointer (some ⟨c,0,none⟩),.bool false] 117)) w.heap.size ⟨0,false⟩ (λk=>Fc k\/k=w.heap.size):=by
 have hlt:=(lV l).lt h
 refine⟨heap_alloc_new _ _,Nat.zero_le _,hl,Fc,(lV l).below h (Go.Joins.below_alloc1 _ _),λhk=>by have:=hlt _ hk;omega,λk hk=>.inl hk,.inr rfl,λk hk=>?_⟩
 rcases hk with hk|hk
 ·have:=hlt k hk;simp;omega
 ·simp;omega
structure Read (w:World)(l:List UInt8)(c q v:Nat)(F:Fr)(s:Rs)(A:At)(W:World):Prop where
 res:aj W w.heap.size Fr.zero At.zero
 fr:aj W v F A
 obj:∃ G,wP l c W q s G
 seen:Seen W F A
 aM:Below w.heap.size w W
theorem Read.drewN {c q v:Nat}{F:Fr}{s:Rs}{A:At}(h:Read w l c q v F s A W)(m:Nat):Read w l c q v F s A (W.drewN m):=by
 have hb:Below W.heap.size W (W.drewN m):=below_drewN (Below.refl _ _) m
 obtain⟨G,hG⟩:=h.obj
 exact⟨h.res.below hb,h.fr.below hb,⟨G,(pE l c).below hG hb⟩,h.seen.below hb,h.aM.trans (hb.mono h.aM.size)⟩
theorem JB {c q:Nat}{F:Fr}{s:Rs}{A:At}{G:Nat->Prop}(h0:aj W w.heap.size Fr.zero At.zero)(hG:wP l c W q s G)(hs:Seen W F A)(hb:Below w.heap.size w W):
  ∃ W',(Instr.storeAt 61 (.pointer (some ⟨W.heap.size,0,none⟩)) (.agg (au F A))).run Tryz.prog (W.alloc (.cells (au Fr.zero At.zero) 61))=.ok () W'/\Read w l c q W.heap.size F s A W':=by
 have h1:aj (W.alloc (.cells (au Fr.zero At.zero) 61)) W.heap.size Fr.zero At.zero:=aj.new W _ _
 have hbb:Below W.heap.size W ((W.alloc (.cells (au Fr.zero At.zero) 61)).setRow W.heap.size (au F A)):=below_setRow (Go.Joins.below_alloc1 _ _) (Nat.le_refl _) _
 exact⟨_,h1.stores F A,h0.below hbb,h1.stored F A,⟨G,(pE l c).below hG hbb⟩,hs.below hbb,hb.trans (hbb.mono hb.size)⟩
theorem Ng (w:World)(x:Option Addr)(cx:Nat)(l:List UInt8)(hx:ag w x cx l)(hl:l.length<=140737488351232)(h3:¬ l.length<3)(hg:iQ l=true)(hcx:l.length<=cx):Calls Tryz.prog 28 #[.slice x l.length cx] w λe w'=>SH w w' e (aX l) (iH l:Nat):=by
 obtain⟨t,ht⟩:=ai (l.take (l.length-3))
 have Uu:iH l=if fF t=false then 4 else 0:=by unfold iH;rw[if_neg h3,if_neg (by rw[hg];decide),ht]
 have LX:aX l=if fF t=false then Fr.zero else (aD t).1:=by
  unfold aX;rw[Uu,<-ht]
  by_cases hf:fF t=false
  ·rw[if_pos hf,if_pos hf];rfl
  ·rw[if_neg hf,if_neg hf];rfl
 obtain⟨RE,Uv⟩:=ai (((iH l:Nat):Int):Int)
 obtain⟨RF,Uw⟩:=ai (aX l)
 rw[<-Uv,<-Uw]
 have Aw:Hid (RE=((if fF t=false then 4 else 0:Nat):Int)/\RF=if fF t=false then Fr.zero else (aD t).1):=⟨by rw[Uv,Uu],by rw[Uw,LX]⟩
 clear Uu LX Uv Uw
 have h0:aj (w.alloc (.cells (au Fr.zero At.zero) 61)) w.heap.size Fr.zero At.zero:=aj.new w _ _
 have hb0:Below w.heap.size w (w.alloc (.cells (au Fr.zero At.zero) 61)):=Go.Joins.below_alloc1 _ _
 have hgo:=Gu (w.alloc (.cells (au Fr.zero At.zero) 61)) x cx l (hx.below hb0) (by omega)
 rw[hg] at hgo
 obtain⟨m,hm⟩:=ai (l.length-3)
 obtain⟨N,hN⟩:=ai l.length
 have htl:t.length=m:=by rw[ht,List.length_take];omega
 have hxt:ag w x cx t:=by rw[ht];exact hx.take _
 rw[<-hN] at h3 hgo hl hm hcx ⊢
 have d3:decide ((N:Int)<3)=false:=by simp;omega
 have e1:(N:Int)-3=(m:Int):=by omega
 have g3:(0:Int)<=(m:Int):=Int.natCast_nonneg _
 have g4:(m:Int)<=(cx:Int):=by omega
 have g5:m<=cx:=by omega
 have H0:Hid (∀ w1,Below (w.alloc (.cells (au Fr.zero At.zero) 61)).heap.size (w.alloc (.cells (au Fr.zero At.zero) 61)) w1->aj w1 w.heap.size Fr.zero At.zero/\Below w.heap.size w w1):=λw1 hb1=>⟨h0.below hb1,hb0.trans (hb1.mono hb0.size)⟩
 have HT:Hid (ag w x cx t/\t.length=m/\m<=140737488351232):=⟨hxt,htl,by omega⟩
 clear hN h0 hb0 hx hg ht hm htl hxt
 go_enter Tryz.func28,Tryz.ntmps28
 go_wp2_with fail
 refine hgo.mono ?_
 rintro e w1 ⟨rfl,hb1⟩
 obtain⟨h1,hb⟩:=H0.out w1 hb1
 have hnr:=LZ w1 x cx t (HT.out.1.below hb) (by have:=HT.out.2;omega)
 rw[HT.out.2.1] at hnr
 have H1:Hid (aj w1 w.heap.size Fr.zero At.zero/\Below w.heap.size w w1):=⟨h1,hb⟩
 clear hgo hb1 H0 h1 hb
 go_wp2_with fail
 refine hnr.mono ?_
 rintro e w2 ⟨c,Fc,rfl,hRd,hb2,hFc⟩
 have hfm:=Nf t w2 c Fc hRd (by have:=HT.out.2;omega)
 have oJ:Below w.heap.size w w2:=H1.out.2.trans (hb2.mono H1.out.2.size)
 have hfr2:=H1.out.1.below hb2
 have H3:Hid (wP t c (w2.alloc (.cells #[.pointer (some ⟨c,0,none⟩),.bool false] 117)) w2.heap.size ⟨0,false⟩ (λk=>Fc k\/k=w2.heap.size)/\aj (w2.alloc (.cells #[.pointer (some ⟨c,0,none⟩),.bool false] 117)) w.heap.size Fr.zero At.zero /\
   Below w.heap.size w (w2.alloc (.cells #[.pointer (some ⟨c,0,none⟩),.bool false] 117))/\∀ k,(Fc k\/k=w2.heap.size)->w.heap.size<k):=
  ⟨hfm, hfr2.alloc _, oJ.alloc oJ.size _, fun k hk => by
    have := H1.out.1.lt
    have := hfr2.lt
    rcases hk with hk | hk
    · have := hFc k hk; omega
    · omega⟩
 have hrd:=Er (w2.alloc (.cells #[.pointer (some ⟨c,0,none⟩),.bool false] 117)) w2.heap.size
 clear hnr hRd hb2 hFc hfm oJ hfr2 H1
 go_wp2_with fail
 refine hrd.mono ?_
 rintro e w4 ⟨rfl,hb4⟩
 have SB:=yU (QH t c w2.heap.size) w4 ⟨0,false⟩ (λk=>Fc k\/k=w2.heap.size) Fr.zero At.zero ((pE t c).below H3.out.1 hb4) (Seen.zero _) ⟨(λ_ _ h=>by cases h),(λ_ _ h=>by cases h),(λ_ _ h=>by cases h)⟩ Nc (by decide)
 rw[Jz] at SB
 have Cm:Hid ((Instr.build 61 #[]).run Tryz.prog w4=.ok (.agg (au Fr.zero At.zero)) w4):=dM _
 have QT:Below w.heap.size w w4:=H3.out.2.2.1.trans (hb4.mono H3.out.2.2.1.size)
 have H4:Hid (aj w4 w.heap.size Fr.zero At.zero/\Below w.heap.size w w4/\∀ k,(Fc k\/k=w2.heap.size)->w.heap.size<k):=⟨H3.out.2.1.below hb4,QT,H3.out.2.2.2⟩
 have Bj:Hid (fF t=(!(aD t).2.miss&&decide (jN t (aD t).2.at_=0)&&dw (aD t).1)):=rfl
 obtain⟨p,hp⟩:=ai (aD t)
 rw[<-hp] at SB Bj Aw
 clear hrd hb4 QT H3 hp
 go_wp2_with (first|(refine aB rfl 61 _ rfl [] _ rfl Cm.out ?_)|fail)
 refine SB.mono ?_
 rintro e w5 ⟨A5,F5,rfl,Sw,yo,WX,Nh,_,_⟩
 have kz:aj w5 w.heap.size Fr.zero At.zero:=H4.out.1.keep (yo.block _ H4.out.1.lt (λhk=>by have:=H4.out.2.2 _ hk;omega))
 have hb5:Below w.heap.size w w5:=yo.below H4.out.2.1 (λk hk=>Nat.le_of_lt (H4.out.2.2 k hk)) H4.out.2.1.size
 obtain⟨W6,Ni,Le⟩:=JB kz Sw Nh hb5
 have wS:Hid ((Instr.storeAt 61 (.pointer (some ⟨w5.heap.size,0,none⟩)) (.agg (au p.1 A5))).run Tryz.prog (w5.alloc (.cells (au Fr.zero At.zero) 61))=.ok () W6):=Ni
 obtain⟨G6,hG6⟩:=Le.obj
 obtain⟨q0,q1,_⟩:=hG6.cells
 have rU:Hid (Read w t c w2.heap.size w5.heap.size p.1 p.2 A5 W6):=Le
 have hend:Calls Tryz.prog 61 #[.pointer (some ⟨c,0,none⟩)] W6 λe w'=>e=.returned (.int .i64 ((jN t p.2.at_:Nat):Int))/\∃ m,w'=W6.drewN m:=by
  obtain⟨_,h2,h3,F',h4,_⟩:=hG6
  exact L9 t W6 c p.2.at_ F' h4 h3 h2
 obtain⟨E,hE⟩:=ai (jN t p.2.at_)
 rw[<-hE] at hend Bj
 obtain⟨ms,hms⟩:=ai p.2.miss
 rw[<-hms] at q1 Bj
 clear SB Sw yo WX Nh kz hb5 Ni Le hG6 H4 Cm hE hms
 cases ms
 ·by_cases hE0:E=0
  ·have Cn:Calls Tryz.prog 61 #[.pointer (some ⟨c,0,none⟩)] W6 λe w'=>e=.returned (.int .i64 0)/\∃ m,w'=W6.drewN m:=by
    rw[hE0] at hend;exact hend
   have Nj:Hid (fF t=dw p.1):=by show _=_;rw[Bj.out,hE0];rfl
   clear hE0 hend
   go_wp2_with (first|(refine ah rfl 61 _ _ rfl _ _ rfl rfl wS.out ?_)|fail)
   refine Cn.mono ?_
   rintro e w7 ⟨rfl,m7,hw7⟩
   have rC:Hid (Read w t c w2.heap.size w5.heap.size p.1 p.2 A5 w7):=by rw[hw7];exact rU.out.drewN m7
   have GJ:Hid ((Instr.loadAt 61 (.pointer (some ⟨w5.heap.size,0,none⟩))).run Tryz.prog w7=.ok (.agg (au p.1 A5)) w7):=rC.out.fr.loads
   have hck:=Cj w7 p.1 A5 rC.out.seen
   clear Cn hw7 q0 q1 rU wS
   obtain⟨rb,hrb⟩:∃ rb,dw p.1=rb:=⟨_,rfl⟩
   have JC:Hid (fF t=rb):=by show _=_;rw[Nj.out,hrb]
   rw[hrb] at hck
   clear hrb Bj Nj
   cases rb
   ·rw[if_neg (by decide)] at hck
    go_wp2_with (first|(refine af rfl 61 _ rfl _ _ rfl GJ.out ?_)|fail)
    refine hck.mono ?_
    rintro e w8 ⟨rfl,wB⟩
    have Ux:aj w8 w.heap.size Fr.zero At.zero/\Below w.heap.size w w8:=⟨rC.out.res.below wB,rC.out.aM.trans (wB.mono rC.out.aM.size)⟩
    obtain⟨Y,hst,hY,pG,wU⟩:=dD (w:=w) Ux.1 Ux.2 Fr.zero At.zero (Seen.zero _)
    have Cm:Hid ((Instr.build 61 #[]).run Tryz.prog w8=.ok (.agg (au Fr.zero At.zero)) w8):=dM _
    have HST:Hid ((Instr.storeAt 61 (.pointer (some ⟨w.heap.size,0,none⟩)) (.agg (au Fr.zero At.zero))).run Tryz.prog w8=.ok () Y):=hst
    have HE:Hid (aj Y w.heap.size Fr.zero At.zero/\Seen Y Fr.zero At.zero/\Below w.heap.size w Y):=⟨hY,pG,wU⟩
    clear hst hY pG wU hck wB Ux GJ
    go_wp2_with (first|(refine aB rfl 61 _ rfl [] _ rfl Cm.out ?_)|(refine ah rfl 61 _ _ rfl _ _ rfl rfl HST.out ?_)|fail)
    refine bodyPost_ret (dz rfl rfl HE.out.1) rfl ?_
    rw[Aw.out.1,Aw.out.2,JC.out]
    exact⟨At.zero,rfl,HE.out.2⟩
   ·rw[if_pos rfl] at hck
    go_wp2_with (first|(refine af rfl 61 _ rfl _ _ rfl GJ.out ?_)|fail)
    refine hck.mono ?_
    rintro e w8 ⟨rfl,wB⟩
    have WY:=(rC.out.fr.below wB).loads
    obtain⟨Y,hst,hY,pG,wU⟩:=dD (w:=w) (rC.out.res.below wB) (rC.out.aM.trans (wB.mono rC.out.aM.size)) p.1 A5 (rC.out.seen.below wB)
    have HL8:Hid ((Instr.loadAt 61 (.pointer (some ⟨w5.heap.size,0,none⟩))).run Tryz.prog w8=.ok (.agg (au p.1 A5)) w8):=WY
    have HST:Hid ((Instr.storeAt 61 (.pointer (some ⟨w.heap.size,0,none⟩)) (.agg (au p.1 A5))).run Tryz.prog w8=.ok () Y):=hst
    have HE:Hid (aj Y w.heap.size p.1 A5/\Seen Y p.1 A5/\Below w.heap.size w Y):=⟨hY,pG,wU⟩
    clear hst hY pG wU hck wB WY GJ
    go_wp2_with (first|(refine af rfl 61 _ rfl _ _ rfl HL8.out ?_)|(refine ah rfl 61 _ _ rfl _ _ rfl rfl HST.out ?_)|fail)
    refine bodyPost_ret (dz rfl rfl HE.out.1) rfl ?_
    rw[Aw.out.1,Aw.out.2,JC.out]
    exact⟨A5,rfl,HE.out.2⟩
  ·have ge:((E:Int) != 0)=true:=by simp;omega
   have JC:Hid (fF t=false):=by show _=_;rw[Bj.out];simp[hE0]
   clear hE0 Bj
   go_wp2_with (first|(refine ah rfl 61 _ _ rfl _ _ rfl rfl wS.out ?_)|fail)
   refine hend.mono ?_
   rintro e w7 ⟨rfl,m7,hw7⟩
   have rC:Hid (Read w t c w2.heap.size w5.heap.size p.1 p.2 A5 w7):=by rw[hw7];exact rU.out.drewN m7
   clear hend hw7 q0 q1 rU wS
   obtain⟨Y,hst,hY,pG,wU⟩:=dD (w:=w) rC.out.res rC.out.aM Fr.zero At.zero (Seen.zero _)
   have Cm:Hid ((Instr.build 61 #[]).run Tryz.prog w7=.ok (.agg (au Fr.zero At.zero)) w7):=dM _
   have HST:Hid ((Instr.storeAt 61 (.pointer (some ⟨w.heap.size,0,none⟩)) (.agg (au Fr.zero At.zero))).run Tryz.prog w7=.ok () Y):=hst
   have HE:Hid (aj Y w.heap.size Fr.zero At.zero/\Seen Y Fr.zero At.zero/\Below w.heap.size w Y):=⟨hY,pG,wU⟩
   clear hst hY pG wU
   go_wp2_with (first|(refine aB rfl 61 _ rfl [] _ rfl Cm.out ?_)|(refine ah rfl 61 _ _ rfl _ _ rfl rfl HST.out ?_)|fail)
   refine bodyPost_ret (dz rfl rfl HE.out.1) rfl ?_
   rw[Aw.out.1,Aw.out.2,JC.out]
   exact⟨At.zero,rfl,HE.out.2⟩
 ·have JC:Hid (fF t=false):=by show _=_;rw[Bj.out];rfl
  clear Bj
  obtain⟨Y,hst,hY,pG,wU⟩:=dD (w:=w) rU.out.res rU.out.aM Fr.zero At.zero (Seen.zero _)
  have Cm:Hid ((Instr.build 61 #[]).run Tryz.prog W6=.ok (.agg (au Fr.zero At.zero)) W6):=dM _
  have HST:Hid ((Instr.storeAt 61 (.pointer (some ⟨w.heap.size,0,none⟩)) (.agg (au Fr.zero At.zero))).run Tryz.prog W6=.ok () Y):=hst
  have HE:Hid (aj Y w.heap.size Fr.zero At.zero/\Seen Y Fr.zero At.zero/\Below w.heap.size w Y):=⟨hY,pG,wU⟩
  clear hst hY pG wU
  go_wp2_with (first|(refine ah rfl 61 _ _ rfl _ _ rfl rfl wS.out ?_)|(refine aB rfl 61 _ rfl [] _ rfl Cm.out ?_)|(refine ah rfl 61 _ _ rfl _ _ rfl rfl HST.out ?_)|fail)
  refine bodyPost_ret (dz rfl rfl HE.out.1) rfl ?_
  rw[Aw.out.1,Aw.out.2,JC.out]
  exact⟨At.zero,rfl,HE.out.2⟩
theorem GK (w:World)(x:Option Addr)(cx:Nat)(l:List UInt8)(hx:ag w x cx l)(hl:l.length<=140737488351232):Calls Tryz.prog 28 #[.slice x l.length cx] w λe w'=>SH w w' e (aX l) (iH l:Nat):=by
 by_cases h3:l.length<3
 ·rw[pF (by rw[nT h3];decide),nT h3]
  exact JA w x cx l h3
 ·obtain⟨g,hg⟩:∃ g,iQ l=g:=⟨_,rfl⟩
  cases g
  ·rw[pF (by rw[sP h3 hg];decide),sP h3 hg]
   exact QS w x cx l hx hl h3 hg
  ·exact Ng w x cx l hx hl h3 hg hx.fits
end Go.Proofs.YtmffplhaclnehaaGreatDoor
