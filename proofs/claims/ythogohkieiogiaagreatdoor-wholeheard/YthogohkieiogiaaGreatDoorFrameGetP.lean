/-
  The contract of Get.
-/
import Derived.Test.YthogohkieiogiaaGreatDoorFrameC
import Derived.Test.YthogohkieiogiaaGreatDoorFrameD
namespace Go.Proofs.YthogohkieiogiaaGreatDoor
set_option maxRecDepth 20000
set_option maxHeartbeats 3200000
open Go.ChangeShapes Go.WideShapes Go.ChangeAt Go.RowKit
theorem rwhole_eq (l:List UInt8):wholeG (λs (_:Nat) V=>numN l s V) (λs (_:Nat) V=>numS l s V) (λs (_:List UInt8) n=>lstN l s n) (λs (_:List UInt8) n=>lstS l s n) ⟨0,false⟩ Fr.zero=wholeR l:=rfl
theorem zero_inr:InR0 Fr.zero:=⟨by decide,by decide,by decide,by decide,by decide,by decide,by decide,by decide,by decide,by decide⟩
theorem build_zero (w:World):(Instr.build 41 #[]).run Tryz.prog w=.ok (.agg (frC Fr.zero At.zero)) w:=run_build w 41 _ _ (by kernel_rfl)
def Got (w w':World)(e:Ending)(F:Fr)(n:Int):Prop:=∃ A,e=.returned (.tuple #[.agg (frC F A),.int .i64 n])/\Seen w' F A/\Below w.heap.size w w'
theorem got_stored {w W:World}(h:FrAt W w.heap.size Fr.zero At.zero)(hb:Below w.heap.size w W)(F:Fr)(A:At)(hs:Seen W F A):
  ∃ W',(Instr.storeAt 41 (.pointer (some ⟨w.heap.size,0,none⟩)) (.agg (frC F A))).run Tryz.prog W=.ok () W'/\FrAt W' w.heap.size F A/\Seen W' F A/\Below w.heap.size w W':=by
 have hk:∀ (x:Option Addr) (c:Nat) (l:List UInt8),Sees W x c l->Sees (W.setRow w.heap.size (frC F A)) x c l:=λx c l hs=>
  ⟨hs.fits, hs.room, hs.bare, fun hne => by
    obtain ⟨b', off, ha, hc⟩ := hs.at' hne
    refine ⟨b', off, ha, fun k y hy => ?_⟩
    rw [World.cell?_of_block (w := W) (setRow_other _ _ _ _ (h.apart hs b' off ha hne)), hc k y hy]⟩
 exact⟨_,h.stores F A,h.stored F A,⟨hk _ _ _ hs.key,hk _ _ _ hs.body,hk _ _ _ hs.tag⟩,below_setRow hb (Nat.le_refl _) _⟩
theorem getE_short {l:List UInt8}(h:l.length<3):getE l=3:=if_pos h
theorem getE_sum {l:List UInt8}(h:¬ l.length<3)(hg:goodL l=false):getE l=8:=by unfold getE;rw[if_neg h,if_pos hg]
theorem getF_bad {l:List UInt8}(h:getE l≠0):getF l=Fr.zero:=if_neg h
theorem get_short (w:World)(x:Option Addr)(cx:Nat)(l:List UInt8)(h3:l.length<3):Calls Tryz.prog 15 #[.slice x l.length cx] w λe w'=>Got w w' e Fr.zero 3:=by
 obtain⟨N,hN⟩:∃ N,N=l.length:=⟨_,rfl⟩
 rw[<-hN] at h3 ⊢
 have d3:decide ((N:Int)<3)=true:=by simp;omega
 have h0:FrAt (w.alloc (.cells (frC Fr.zero At.zero) 41)) w.heap.size Fr.zero At.zero:=FrAt.new w _ _
 obtain⟨W,hst,hW,hs,hb⟩:=got_stored h0 (Go.Joins.below_alloc1 _ _) Fr.zero At.zero (Seen.zero _)
 have HB:Hid ((Instr.build 41 #[]).run Tryz.prog (w.alloc (.cells (frC Fr.zero At.zero) 41))=.ok (.agg (frC Fr.zero At.zero)) (w.alloc (.cells (frC Fr.zero At.zero) 41))):=build_zero _
 have HST:Hid ((Instr.storeAt 41 (.pointer (some ⟨w.heap.size,0,none⟩)) (.agg (frC Fr.zero At.zero))).run Tryz.prog (w.alloc (.cells (frC Fr.zero At.zero) 41))=.ok () W):=hst
 have HE:Hid (FrAt W w.heap.size Fr.zero At.zero/\Seen W Fr.zero At.zero/\Below w.heap.size w W):=⟨hW,hs,hb⟩
 clear hN h0 hst hW hs hb
 go_enter Tryz.func15,Tryz.ntmps15
 go_wp2_with (first|(refine wpList_build_run rfl 41 _ rfl [] _ rfl HB.out ?_)|(refine wpList_store_run rfl 41 _ _ rfl _ _ rfl rfl HST.out ?_)|fail)
 refine bodyPost_ret (res_fr_tmp rfl rfl HE.out.1) rfl ?_
 exact⟨At.zero,rfl,HE.out.2⟩
theorem get_sum (w:World)(x:Option Addr)(cx:Nat)(l:List UInt8)(hx:Sees w x cx l)(hl:l.length<=140737488351232)(h3:¬ l.length<3)(hg:goodL l=false):Calls Tryz.prog 15 #[.slice x l.length cx] w λe w'=>Got w w' e Fr.zero 8:=by
 have h0:FrAt (w.alloc (.cells (frC Fr.zero At.zero) 41)) w.heap.size Fr.zero At.zero:=FrAt.new w _ _
 have hb0:Below w.heap.size w (w.alloc (.cells (frC Fr.zero At.zero) 41)):=Go.Joins.below_alloc1 _ _
 have hgo:=good_ok (w.alloc (.cells (frC Fr.zero At.zero) 41)) x cx l (hx.below hb0) (by omega)
 rw[hg] at hgo
 obtain⟨N,hN⟩:∃ N,N=l.length:=⟨_,rfl⟩
 rw[<-hN] at h3 hgo hl ⊢
 have d3:decide ((N:Int)<3)=false:=by simp;omega
 have H0:Hid (∀ w1,Below (w.alloc (.cells (frC Fr.zero At.zero) 41)).heap.size (w.alloc (.cells (frC Fr.zero At.zero) 41)) w1->FrAt w1 w.heap.size Fr.zero At.zero/\Below w.heap.size w w1):=λw1 hb1=>⟨h0.below hb1,hb0.trans (hb1.mono hb0.size)⟩
 clear hN h0 hb0 hx hg
 go_enter Tryz.func15,Tryz.ntmps15
 go_wp2_with fail
 refine hgo.mono ?_
 rintro e w1 ⟨rfl,hb1⟩
 obtain⟨h1,hb⟩:=H0.out w1 hb1
 obtain⟨W,hst,hW,hs,hbW⟩:=got_stored h1 hb Fr.zero At.zero (Seen.zero _)
 have HB:Hid ((Instr.build 41 #[]).run Tryz.prog w1=.ok (.agg (frC Fr.zero At.zero)) w1):=build_zero _
 have HST:Hid ((Instr.storeAt 41 (.pointer (some ⟨w.heap.size,0,none⟩)) (.agg (frC Fr.zero At.zero))).run Tryz.prog w1=.ok () W):=hst
 have HE:Hid (FrAt W w.heap.size Fr.zero At.zero/\Seen W Fr.zero At.zero/\Below w.heap.size w W):=⟨hW,hs,hbW⟩
 clear hgo hb1 H0 h1 hb hst hW hs hbW
 go_wp2_with (first|(refine wpList_build_run rfl 41 _ rfl [] _ rfl HB.out ?_)|(refine wpList_store_run rfl 41 _ _ rfl _ _ rfl rfl HST.out ?_)|fail)
 refine bodyPost_ret (res_fr_tmp rfl rfl HE.out.1) rfl ?_
 exact⟨At.zero,rfl,HE.out.2⟩
theorem frm_laid (l:List UInt8)(w:World)(c:Nat)(Fc:Nat->Prop)(h:RdM l w c 0 Fc)(hl:l.length<=140737488355328):
  FrM l c (w.alloc (.cells #[.pointer (some ⟨c,0,none⟩),.bool false] 97)) w.heap.size ⟨0,false⟩ (λk=>Fc k\/k=w.heap.size):=by
 have hlt:=(rd_kept l).lt h
 refine⟨heap_alloc_new _ _,Nat.zero_le _,hl,Fc,(rd_kept l).below h (Go.Joins.below_alloc1 _ _),λhk=>by have:=hlt _ hk;omega,λk hk=>.inl hk,.inr rfl,λk hk=>?_⟩
 rcases hk with hk|hk
 ·have:=hlt k hk;simp;omega
 ·simp;omega
structure Read (w:World)(l:List UInt8)(c q v:Nat)(F:Fr)(s:Rs)(A:At)(W:World):Prop where
 res:FrAt W w.heap.size Fr.zero At.zero
 fr:FrAt W v F A
 obj:∃ G,FrM l c W q s G
 seen:Seen W F A
 bel:Below w.heap.size w W
theorem Read.drewN {w:World}{l:List UInt8}{c q v:Nat}{F:Fr}{s:Rs}{A:At}{W:World}(h:Read w l c q v F s A W)(m:Nat):Read w l c q v F s A (W.drewN m):=by
 have hb:Below W.heap.size W (W.drewN m):=below_drewN (Below.refl _ _) m
 obtain⟨G,hG⟩:=h.obj
 exact⟨h.res.below hb,h.fr.below hb,⟨G,(frm_kept l c).below hG hb⟩,h.seen.below hb,h.bel.trans (hb.mono h.bel.size)⟩
theorem read_laid {w W:World}{l:List UInt8}{c q:Nat}{F:Fr}{s:Rs}{A:At}{G:Nat->Prop}(h0:FrAt W w.heap.size Fr.zero At.zero)(hG:FrM l c W q s G)(hs:Seen W F A)(hb:Below w.heap.size w W):
  ∃ W',(Instr.storeAt 41 (.pointer (some ⟨W.heap.size,0,none⟩)) (.agg (frC F A))).run Tryz.prog (W.alloc (.cells (frC Fr.zero At.zero) 41))=.ok () W'/\Read w l c q W.heap.size F s A W':=by
 have h1:FrAt (W.alloc (.cells (frC Fr.zero At.zero) 41)) W.heap.size Fr.zero At.zero:=FrAt.new W _ _
 have hbb:Below W.heap.size W ((W.alloc (.cells (frC Fr.zero At.zero) 41)).setRow W.heap.size (frC F A)):=below_setRow (Go.Joins.below_alloc1 _ _) (Nat.le_refl _) _
 exact⟨_,h1.stores F A,h0.below hbb,h1.stored F A,⟨G,(frm_kept l c).below hG hbb⟩,hs.below hbb,hb.trans (hbb.mono hb.size)⟩
theorem get_good (w:World)(x:Option Addr)(cx:Nat)(l:List UInt8)(hx:Sees w x cx l)(hl:l.length<=140737488351232)(h3:¬ l.length<3)(hg:goodL l=true)(hcx:l.length<=cx):Calls Tryz.prog 15 #[.slice x l.length cx] w λe w'=>Got w w' e (getF l) (getE l:Nat):=by
 obtain⟨t,ht⟩:∃ t,t=l.take (l.length-3):=⟨_,rfl⟩
 have hgE:getE l=if fineB t=false then 4 else 0:=by unfold getE;rw[if_neg h3,if_neg (by rw[hg];decide),ht]
 have hgF:getF l=if fineB t=false then Fr.zero else (wholeR t).1:=by
  unfold getF;rw[hgE,<-ht]
  by_cases hf:fineB t=false
  ·rw[if_pos hf,if_pos hf];rfl
  ·rw[if_neg hf,if_neg hf];rfl
 obtain⟨RE,hRE⟩:∃ RE:Int,RE=((getE l:Nat):Int):=⟨_,rfl⟩
 obtain⟨RF,hRF⟩:∃ RF,RF=getF l:=⟨_,rfl⟩
 rw[<-hRE,<-hRF]
 have HRE:Hid (RE=((if fineB t=false then 4 else 0:Nat):Int)/\RF=if fineB t=false then Fr.zero else (wholeR t).1):=⟨by rw[hRE,hgE],by rw[hRF,hgF]⟩
 clear hgE hgF hRE hRF
 have h0:FrAt (w.alloc (.cells (frC Fr.zero At.zero) 41)) w.heap.size Fr.zero At.zero:=FrAt.new w _ _
 have hb0:Below w.heap.size w (w.alloc (.cells (frC Fr.zero At.zero) 41)):=Go.Joins.below_alloc1 _ _
 have hgo:=good_ok (w.alloc (.cells (frC Fr.zero At.zero) 41)) x cx l (hx.below hb0) (by omega)
 rw[hg] at hgo
 obtain⟨m,hm⟩:∃ m,m=l.length-3:=⟨_,rfl⟩
 obtain⟨N,hN⟩:∃ N,N=l.length:=⟨_,rfl⟩
 have htl:t.length=m:=by rw[ht,List.length_take];omega
 have hxt:Sees w x cx t:=by rw[ht];exact hx.take _
 rw[<-hN] at h3 hgo hl hm hcx ⊢
 have d3:decide ((N:Int)<3)=false:=by simp;omega
 have e1:(N:Int)-3=(m:Int):=by omega
 have g3:(0:Int)<=(m:Int):=Int.natCast_nonneg _
 have g4:(m:Int)<=(cx:Int):=by omega
 have g5:m<=cx:=by omega
 have H0:Hid (∀ w1,Below (w.alloc (.cells (frC Fr.zero At.zero) 41)).heap.size (w.alloc (.cells (frC Fr.zero At.zero) 41)) w1->FrAt w1 w.heap.size Fr.zero At.zero/\Below w.heap.size w w1):=λw1 hb1=>⟨h0.below hb1,hb0.trans (hb1.mono hb0.size)⟩
 have HT:Hid (Sees w x cx t/\t.length=m/\m<=140737488351232):=⟨hxt,htl,by omega⟩
 clear hN h0 hb0 hx hg ht hm htl hxt
 go_enter Tryz.func15,Tryz.ntmps15
 go_wp2_with fail
 refine hgo.mono ?_
 rintro e w1 ⟨rfl,hb1⟩
 obtain⟨h1,hb⟩:=H0.out w1 hb1
 have hnr:=rdnew_ok w1 x cx t (HT.out.1.below hb) (by have:=HT.out.2;omega)
 rw[HT.out.2.1] at hnr
 have H1:Hid (FrAt w1 w.heap.size Fr.zero At.zero/\Below w.heap.size w w1):=⟨h1,hb⟩
 clear hgo hb1 H0 h1 hb
 go_wp2_with fail
 refine hnr.mono ?_
 rintro e w2 ⟨c,Fc,rfl,hRd,hb2,hFc⟩
 have hfm:=frm_laid t w2 c Fc hRd (by have:=HT.out.2;omega)
 have hb2w:Below w.heap.size w w2:=H1.out.2.trans (hb2.mono H1.out.2.size)
 have hfr2:=H1.out.1.below hb2
 have H3:Hid (FrM t c (w2.alloc (.cells #[.pointer (some ⟨c,0,none⟩),.bool false] 97)) w2.heap.size ⟨0,false⟩ (λk=>Fc k\/k=w2.heap.size)/\FrAt (w2.alloc (.cells #[.pointer (some ⟨c,0,none⟩),.bool false] 97)) w.heap.size Fr.zero At.zero /\
   Below w.heap.size w (w2.alloc (.cells #[.pointer (some ⟨c,0,none⟩),.bool false] 97))/\∀ k,(Fc k\/k=w2.heap.size)->w.heap.size<k):=
  ⟨hfm, hfr2.alloc _, hb2w.alloc hb2w.size _, fun k hk => by
    have := H1.out.1.lt
    have := hfr2.lt
    rcases hk with hk | hk
    · have := hFc k hk; omega
    · omega⟩
 have hrd:=reading_ok (w2.alloc (.cells #[.pointer (some ⟨c,0,none⟩),.bool false] 97)) w2.heap.size
 clear hnr hRd hb2 hFc hfm hb2w hfr2 H1
 go_wp2_with fail
 refine hrd.mono ?_
 rintro e w4 ⟨rfl,hb4⟩
 have hwh:=hwhole_ok (hand_rd t c w2.heap.size) w4 ⟨0,false⟩ (λk=>Fc k\/k=w2.heap.size) Fr.zero At.zero ((frm_kept t c).below H3.out.1 hb4) (Seen.zero _) ⟨(λ_ _ h=>by cases h),(λ_ _ h=>by cases h),(λ_ _ h=>by cases h)⟩ zero_inr (by decide)
 rw[rwhole_eq] at hwh
 have HBZ:Hid ((Instr.build 41 #[]).run Tryz.prog w4=.ok (.agg (frC Fr.zero At.zero)) w4):=build_zero _
 have hb4w:Below w.heap.size w w4:=H3.out.2.2.1.trans (hb4.mono H3.out.2.2.1.size)
 have H4:Hid (FrAt w4 w.heap.size Fr.zero At.zero/\Below w.heap.size w w4/\∀ k,(Fc k\/k=w2.heap.size)->w.heap.size<k):=⟨H3.out.2.1.below hb4,hb4w,H3.out.2.2.2⟩
 have HFB:Hid (fineB t=(!(wholeR t).2.miss&&decide (endP t (wholeR t).2.at_=0)&&rightB (wholeR t).1)):=rfl
 obtain⟨p,hp⟩:∃ p,p=wholeR t:=⟨_,rfl⟩
 rw[<-hp] at hwh HFB HRE
 clear hrd hb4 hb4w H3 hp
 go_wp2_with (first|(refine wpList_build_run rfl 41 _ rfl [] _ rfl HBZ.out ?_)|fail)
 refine hwh.mono ?_
 rintro e w5 ⟨A5,F5,rfl,hM5,hap5,hsub5,hsn5,_,_⟩
 have hr5:FrAt w5 w.heap.size Fr.zero At.zero:=H4.out.1.keep (hap5.block _ H4.out.1.lt (λhk=>by have:=H4.out.2.2 _ hk;omega))
 have hb5:Below w.heap.size w w5:=hap5.below H4.out.2.1 (λk hk=>Nat.le_of_lt (H4.out.2.2 k hk)) H4.out.2.1.size
 obtain⟨W6,hst6,hR6⟩:=read_laid hr5 hM5 hsn5 hb5
 have HST6:Hid ((Instr.storeAt 41 (.pointer (some ⟨w5.heap.size,0,none⟩)) (.agg (frC p.1 A5))).run Tryz.prog (w5.alloc (.cells (frC Fr.zero At.zero) 41))=.ok () W6):=hst6
 obtain⟨G6,hG6⟩:=hR6.obj
 obtain⟨q0,q1,_⟩:=hG6.cells
 have HR6:Hid (Read w t c w2.heap.size w5.heap.size p.1 p.2 A5 W6):=hR6
 have hend:Calls Tryz.prog 42 #[.pointer (some ⟨c,0,none⟩)] W6 λe w'=>e=.returned (.int .i64 ((endP t p.2.at_:Nat):Int))/\∃ m,w'=W6.drewN m:=by
  obtain⟨_,h2,h3,F',h4,_⟩:=hG6
  exact rdend_ok t W6 c p.2.at_ F' h4 h3 h2
 obtain⟨E,hE⟩:∃ E,E=endP t p.2.at_:=⟨_,rfl⟩
 rw[<-hE] at hend HFB
 obtain⟨ms,hms⟩:∃ ms,ms=p.2.miss:=⟨_,rfl⟩
 rw[<-hms] at q1 HFB
 clear hwh hM5 hap5 hsub5 hsn5 hr5 hb5 hst6 hR6 hG6 H4 HBZ hE hms
 cases ms
 ·by_cases hE0:E=0
  ·have hend0:Calls Tryz.prog 42 #[.pointer (some ⟨c,0,none⟩)] W6 λe w'=>e=.returned (.int .i64 0)/\∃ m,w'=W6.drewN m:=by
    rw[hE0] at hend;exact hend
   have HFB2:Hid (fineB t=rightB p.1):=by show _=_;rw[HFB.out,hE0];rfl
   clear hE0 hend
   go_wp2_with (first|(refine wpList_store_run rfl 41 _ _ rfl _ _ rfl rfl HST6.out ?_)|fail)
   refine hend0.mono ?_
   rintro e w7 ⟨rfl,m7,hw7⟩
   have HR7:Hid (Read w t c w2.heap.size w5.heap.size p.1 p.2 A5 w7):=by rw[hw7];exact HR6.out.drewN m7
   have HL7:Hid ((Instr.loadAt 41 (.pointer (some ⟨w5.heap.size,0,none⟩))).run Tryz.prog w7=.ok (.agg (frC p.1 A5)) w7):=HR7.out.fr.loads
   have hck:=check_ok w7 p.1 A5 HR7.out.seen
   clear hend0 hw7 q0 q1 HR6 HST6
   obtain⟨rb,hrb⟩:∃ rb,rightB p.1=rb:=⟨_,rfl⟩
   have HFN:Hid (fineB t=rb):=by show _=_;rw[HFB2.out,hrb]
   rw[hrb] at hck
   clear hrb HFB HFB2
   cases rb
   ·rw[if_neg (by decide)] at hck
    go_wp2_with (first|(refine wpList_gload_run rfl 41 _ rfl _ _ rfl HL7.out ?_)|fail)
    refine hck.mono ?_
    rintro e w8 ⟨rfl,hb8⟩
    have hR8:FrAt w8 w.heap.size Fr.zero At.zero/\Below w.heap.size w w8:=⟨HR7.out.res.below hb8,HR7.out.bel.trans (hb8.mono HR7.out.bel.size)⟩
    obtain⟨Y,hst,hY,hsY,hbY⟩:=got_stored (w:=w) hR8.1 hR8.2 Fr.zero At.zero (Seen.zero _)
    have HBZ:Hid ((Instr.build 41 #[]).run Tryz.prog w8=.ok (.agg (frC Fr.zero At.zero)) w8):=build_zero _
    have HST:Hid ((Instr.storeAt 41 (.pointer (some ⟨w.heap.size,0,none⟩)) (.agg (frC Fr.zero At.zero))).run Tryz.prog w8=.ok () Y):=hst
    have HE:Hid (FrAt Y w.heap.size Fr.zero At.zero/\Seen Y Fr.zero At.zero/\Below w.heap.size w Y):=⟨hY,hsY,hbY⟩
    clear hst hY hsY hbY hck hb8 hR8 HL7
    go_wp2_with (first|(refine wpList_build_run rfl 41 _ rfl [] _ rfl HBZ.out ?_)|(refine wpList_store_run rfl 41 _ _ rfl _ _ rfl rfl HST.out ?_)|fail)
    refine bodyPost_ret (res_fr_tmp rfl rfl HE.out.1) rfl ?_
    rw[HRE.out.1,HRE.out.2,HFN.out]
    exact⟨At.zero,rfl,HE.out.2⟩
   ·rw[if_pos rfl] at hck
    go_wp2_with (first|(refine wpList_gload_run rfl 41 _ rfl _ _ rfl HL7.out ?_)|fail)
    refine hck.mono ?_
    rintro e w8 ⟨rfl,hb8⟩
    have hL8:=(HR7.out.fr.below hb8).loads
    obtain⟨Y,hst,hY,hsY,hbY⟩:=got_stored (w:=w) (HR7.out.res.below hb8) (HR7.out.bel.trans (hb8.mono HR7.out.bel.size)) p.1 A5 (HR7.out.seen.below hb8)
    have HL8:Hid ((Instr.loadAt 41 (.pointer (some ⟨w5.heap.size,0,none⟩))).run Tryz.prog w8=.ok (.agg (frC p.1 A5)) w8):=hL8
    have HST:Hid ((Instr.storeAt 41 (.pointer (some ⟨w.heap.size,0,none⟩)) (.agg (frC p.1 A5))).run Tryz.prog w8=.ok () Y):=hst
    have HE:Hid (FrAt Y w.heap.size p.1 A5/\Seen Y p.1 A5/\Below w.heap.size w Y):=⟨hY,hsY,hbY⟩
    clear hst hY hsY hbY hck hb8 hL8 HL7
    go_wp2_with (first|(refine wpList_gload_run rfl 41 _ rfl _ _ rfl HL8.out ?_)|(refine wpList_store_run rfl 41 _ _ rfl _ _ rfl rfl HST.out ?_)|fail)
    refine bodyPost_ret (res_fr_tmp rfl rfl HE.out.1) rfl ?_
    rw[HRE.out.1,HRE.out.2,HFN.out]
    exact⟨A5,rfl,HE.out.2⟩
  ·have ge:((E:Int) != 0)=true:=by simp;omega
   have HFN:Hid (fineB t=false):=by show _=_;rw[HFB.out];simp[hE0]
   clear hE0 HFB
   go_wp2_with (first|(refine wpList_store_run rfl 41 _ _ rfl _ _ rfl rfl HST6.out ?_)|fail)
   refine hend.mono ?_
   rintro e w7 ⟨rfl,m7,hw7⟩
   have HR7:Hid (Read w t c w2.heap.size w5.heap.size p.1 p.2 A5 w7):=by rw[hw7];exact HR6.out.drewN m7
   clear hend hw7 q0 q1 HR6 HST6
   obtain⟨Y,hst,hY,hsY,hbY⟩:=got_stored (w:=w) HR7.out.res HR7.out.bel Fr.zero At.zero (Seen.zero _)
   have HBZ:Hid ((Instr.build 41 #[]).run Tryz.prog w7=.ok (.agg (frC Fr.zero At.zero)) w7):=build_zero _
   have HST:Hid ((Instr.storeAt 41 (.pointer (some ⟨w.heap.size,0,none⟩)) (.agg (frC Fr.zero At.zero))).run Tryz.prog w7=.ok () Y):=hst
   have HE:Hid (FrAt Y w.heap.size Fr.zero At.zero/\Seen Y Fr.zero At.zero/\Below w.heap.size w Y):=⟨hY,hsY,hbY⟩
   clear hst hY hsY hbY
   go_wp2_with (first|(refine wpList_build_run rfl 41 _ rfl [] _ rfl HBZ.out ?_)|(refine wpList_store_run rfl 41 _ _ rfl _ _ rfl rfl HST.out ?_)|fail)
   refine bodyPost_ret (res_fr_tmp rfl rfl HE.out.1) rfl ?_
   rw[HRE.out.1,HRE.out.2,HFN.out]
   exact⟨At.zero,rfl,HE.out.2⟩
 ·have HFN:Hid (fineB t=false):=by show _=_;rw[HFB.out];rfl
  clear HFB
  obtain⟨Y,hst,hY,hsY,hbY⟩:=got_stored (w:=w) HR6.out.res HR6.out.bel Fr.zero At.zero (Seen.zero _)
  have HBZ:Hid ((Instr.build 41 #[]).run Tryz.prog W6=.ok (.agg (frC Fr.zero At.zero)) W6):=build_zero _
  have HST:Hid ((Instr.storeAt 41 (.pointer (some ⟨w.heap.size,0,none⟩)) (.agg (frC Fr.zero At.zero))).run Tryz.prog W6=.ok () Y):=hst
  have HE:Hid (FrAt Y w.heap.size Fr.zero At.zero/\Seen Y Fr.zero At.zero/\Below w.heap.size w Y):=⟨hY,hsY,hbY⟩
  clear hst hY hsY hbY
  go_wp2_with (first|(refine wpList_store_run rfl 41 _ _ rfl _ _ rfl rfl HST6.out ?_)|(refine wpList_build_run rfl 41 _ rfl [] _ rfl HBZ.out ?_)|(refine wpList_store_run rfl 41 _ _ rfl _ _ rfl rfl HST.out ?_)|fail)
  refine bodyPost_ret (res_fr_tmp rfl rfl HE.out.1) rfl ?_
  rw[HRE.out.1,HRE.out.2,HFN.out]
  exact⟨At.zero,rfl,HE.out.2⟩
theorem get_any (w:World)(x:Option Addr)(cx:Nat)(l:List UInt8)(hx:Sees w x cx l)(hl:l.length<=140737488351232):Calls Tryz.prog 15 #[.slice x l.length cx] w λe w'=>Got w w' e (getF l) (getE l:Nat):=by
 by_cases h3:l.length<3
 ·rw[getF_bad (by rw[getE_short h3];decide),getE_short h3]
  exact get_short w x cx l h3
 ·obtain⟨g,hg⟩:∃ g,goodL l=g:=⟨_,rfl⟩
  cases g
  ·rw[getF_bad (by rw[getE_sum h3 hg];decide),getE_sum h3 hg]
   exact get_sum w x cx l hx hl h3 hg
  ·exact get_good w x cx l hx hl h3 hg hx.fits
end Go.Proofs.YthogohkieiogiaaGreatDoor
