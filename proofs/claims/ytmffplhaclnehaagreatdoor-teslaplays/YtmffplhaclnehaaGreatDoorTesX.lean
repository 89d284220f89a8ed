/- A helper. -/
import Derived.Test.YtmffplhaclnehaaGreatDoorTesW
import Derived.Test.YtmffplhaclnehaaGreatDoorTesJ
namespace Go.Proofs.YtmffplhaclnehaaGreatDoor
set_option maxRecDepth 20000
set_option maxHeartbeats 1600000
open Go.ChangeShapes Go.WideShapes Go.ChangeAt Go.RowKit
theorem OA (w:World)(F:Fr)(A:At)(k:Option Addr)(ck:Nat)(key:List UInt8)(hF:Seen w F A)(hn:F.n<18446744073709551616)(hk:ag w k ck key)(h16:key.length=16)(hc:bH F=true):
  Calls Tryz.prog 139 #[.agg (au F A),.slice k key.length ck] w λe w'=>Tq w w' e key F (.int .i64 0):=by
 have hb0:Below w.heap.size w (w.alloc (.cells (au F A) 61)):=Go.Joins.below_alloc1 _ _
 have hm:=zu (w.alloc (.cells (au F A) 61)) k ck key (hk.below hb0) h16
 have H0:Hid (aj (w.alloc (.cells (au F A) 61)) w.heap.size F A/\Below w.heap.size w (w.alloc (.cells (au F A) 61))):=⟨aj.new w F A,hb0⟩
 have HT:Hid (Seen w F A/\F.n<18446744073709551616/\bH F=true):=⟨hF,hn,hc⟩
 clear hb0 hF hn hk h16 hc
 go_enter Tryz.func139,Tryz.ntmps139
 go_upto_region 1 with fail
 generalize w.alloc (Obj.cells (au F A) 61)=W0 at *
 go_wp2_with fail
 refine hm.mono ?_
 rintro e w1 ⟨d1,c1,r1,hr1,rfl,hs1,hb1⟩
 have rJ:Below w.heap.size w w1:=H0.out.2.trans (hb1.mono H0.out.2.size)
 have hL:=(H0.out.1.below hb1).loads
 have hco:=wR w1 F A (HT.out.1.below rJ) HT.out.2.1
 have eR:um F=mY F:=by unfold um;rw[if_pos HT.out.2.2]
 have eE:yY F=0:=by unfold yY;rw[if_pos HT.out.2.2]
 rw[eR,eE] at hco
 have HL:Hid ((Instr.loadAt 61 (.pointer (some ⟨w.heap.size,0,none⟩))).run Tryz.prog w1=.ok (.agg (au F A)) w1):=hL
 have H1:Hid (Below w.heap.size w w1/\ag w1 d1 c1 r1/\r1=keyOf key qI []):=⟨rJ,hs1,hr1.out⟩
 have HC:Hid ((mY F).length<=43):=zq F HT.out.2.1 HT.out.2.2
 have HK:Hid (oL key F=(gI (keyOf key qI []) (mY F)).take 8):=rfl
 obtain⟨tg,htg⟩:=ai (oL key F)
 generalize mY F=C at *
 clear hm hr1 hs1 hb1 rJ hL H0 eR eE
 go_wp2_with (first|(refine af rfl 61 _ rfl _ _ rfl HL.out ?_)|fail)
 refine hco.mono ?_
 rintro e w2 ⟨d2,c2,rfl,hs2,hb2⟩
 have oJ:Below w.heap.size w w2:=H1.out.1.trans (hb2.mono H1.out.1.size)
 have hsh:Calls Tryz.prog 185 #[.slice d1 r1.length c1,.slice d2 C.length c2,.int .i64 8] w2 _:=EY w2 d1 c1 r1 d2 c2 C 8 (H1.out.2.1.below hb2) hs2 (by rw[H1.out.2.2,nQ];decide) (by have:=HC.out;omega) (by decide) (by decide)
 have H2:Hid (Below w.heap.size w w2/\r1=keyOf key qI []):=⟨oJ,H1.out.2.2⟩
 clear hco hs2 hb2 oJ HL H1
 go_wp2_with fail
 refine hsh.mono ?_
 rintro e w3 ⟨d3,c3,r3,hr3,rfl,hl3,hs3,hb3⟩
 have H3:Hid (Hid (r3=oL key F)/\r3.length=8/\ag w3 d3 c3 r3/\Below w.heap.size w w3):=⟨by show r3=oL key F;rw[hr3.out,H2.out.2,HK.out],hl3,hs3,H2.out.1.trans (hb3.mono H2.out.1.size)⟩
 clear hsh hr3 hl3 hs3 hb3 H2
 go_wp2
 go_ret2
 exact⟨d3,c3,r3,H3.out.1,rfl,H3.out.2⟩
theorem OB (w:World)(F:Fr)(A:At)(k:Option Addr)(ck:Nat)(key:List UInt8)(hk:ag w k ck key)(h16:¬ key.length=16):
  Calls Tryz.prog 139 #[.agg (au F A),.slice k key.length ck] w λe w'=>e=.returned (.tuple #[.slice none 0 0,.int .i64 1])/\Below w.heap.size w w':=by
 have hb0:Below w.heap.size w (w.alloc (.cells (au F A) 61)):=Go.Joins.below_alloc1 _ _
 have hm:=Ov (w.alloc (.cells (au F A) 61)) k ck key (hk.below hb0) h16
 have H0:Hid (Below w.heap.size w (w.alloc (.cells (au F A) 61))):=hb0
 clear hb0 hk h16
 go_enter Tryz.func139,Tryz.ntmps139
 go_upto_region 1 with fail
 generalize w.alloc (Obj.cells (au F A) 61)=W0 at *
 go_wp2_with fail
 refine hm.mono ?_
 rintro e w1 ⟨d1,c1,rfl,hb1⟩
 have H1:Hid (Below w.heap.size w w1):=H0.out.trans (hb1.mono H0.out.size)
 clear hm hb1 H0
 go_wp2
 go_ret2
 exact⟨rfl,H1.out⟩
theorem Kt (w:World)(F:Fr)(A:At)(k:Option Addr)(ck:Nat)(key:List UInt8)(hF:Seen w F A)(hn:F.n<18446744073709551616)(hk:ag w k ck key)(h16:key.length=16)(hc:bH F=false):
  Calls Tryz.prog 139 #[.agg (au F A),.slice k key.length ck] w λe w'=>e=.returned (.tuple #[.slice none 0 0,.int .i64 1])/\Below w.heap.size w w':=by
 have hb0:Below w.heap.size w (w.alloc (.cells (au F A) 61)):=Go.Joins.below_alloc1 _ _
 have hm:=zu (w.alloc (.cells (au F A) 61)) k ck key (hk.below hb0) h16
 have H0:Hid (aj (w.alloc (.cells (au F A) 61)) w.heap.size F A/\Below w.heap.size w (w.alloc (.cells (au F A) 61))):=⟨aj.new w F A,hb0⟩
 have HT:Hid (Seen w F A/\F.n<18446744073709551616/\bH F=false):=⟨hF,hn,hc⟩
 clear hb0 hF hn hk h16 hc
 go_enter Tryz.func139,Tryz.ntmps139
 go_upto_region 1 with fail
 generalize w.alloc (Obj.cells (au F A) 61)=W0 at *
 go_wp2_with fail
 refine hm.mono ?_
 rintro e w1 ⟨d1,c1,r1,hr1,rfl,hs1,hb1⟩
 have rJ:Below w.heap.size w w1:=H0.out.2.trans (hb1.mono H0.out.2.size)
 have hL:=(H0.out.1.below hb1).loads
 have hco:=wR w1 F A (HT.out.1.below rJ) HT.out.2.1
 have eR:um F=[]:=by unfold um;rw[if_neg (by rw[HT.out.2.2];decide)]
 have eE:yY F=1:=by unfold yY;rw[if_neg (by rw[HT.out.2.2];decide)]
 rw[eR,eE] at hco
 have HL:Hid ((Instr.loadAt 61 (.pointer (some ⟨w.heap.size,0,none⟩))).run Tryz.prog w1=.ok (.agg (au F A)) w1):=hL
 have H1:Hid (Below w.heap.size w w1):=rJ
 clear hm hr1 hs1 hb1 rJ hL H0 eR eE
 go_wp2_with (first|(refine af rfl 61 _ rfl _ _ rfl HL.out ?_)|fail)
 refine hco.mono ?_
 rintro e w2 ⟨d2,c2,rfl,hs2,hb2⟩
 have H2:Hid (Below w.heap.size w w2):=H1.out.trans (hb2.mono H1.out.size)
 clear hco hs2 hb2 HL H1
 go_wp2
 go_ret2
 exact⟨rfl,H2.out⟩
theorem OC (w:World)(F:Fr)(A:At)(k:Option Addr)(ck:Nat)(key:List UInt8)(hF:Seen w F A)(hn:F.n<18446744073709551616)(hk:ag w k ck key):
  Calls Tryz.prog 139 #[.agg (au F A),.slice k key.length ck] w λe w'=>Av w w' e (AR key F) (AU key F):=by
 obtain⟨b,hb⟩:∃ b,pU key F=b:=⟨_,rfl⟩
 by_cases h16:key.length=16
 ·cases hc:bH F
  ·have hb':pU key F=false:=by unfold pU;rw[hc];simp
   refine(Kt w F A k ck key hF hn hk h16 hc).mono ?_
   rintro e w' ⟨rfl,hw⟩
   exact CY hb' hw
  ·have hb':pU key F=true:=(xJ key F).2 ⟨h16,hc⟩
   refine(OA w F A k ck key hF hn hk h16 hc).mono ?_
   rintro e w' ⟨d,cd,r,hr,rfl,_,hs,hw⟩
   exact Ox hb' hr.out hs hw
 ·have hb':pU key F=false:=by unfold pU;simp[h16]
  refine(OB w F A k ck key hk h16).mono ?_
  rintro e w' ⟨rfl,hw⟩
  exact CY hb' hw
theorem Fw (w:World)(F:Fr)(A:At)(k:Option Addr)(ck:Nat)(key:List UInt8)(hF:Seen w F A)(hn:F.n<18446744073709551616)(hk:ag w k ck key)(b:Bool)(hb:fQ key F=b):
  Calls Tryz.prog 88 #[.agg (au F A),.slice k key.length ck] w λe w'=>e=.returned (.bool b)/\Below w.heap.size w w':=by
 have hb0:Below w.heap.size w (w.alloc (.cells (au F A) 61)):=Go.Joins.below_alloc1 _ _
 have H0:Hid (aj (w.alloc (.cells (au F A) 61)) w.heap.size F A/\Seen (w.alloc (.cells (au F A) 61)) F A/\Below w.heap.size w (w.alloc (.cells (au F A) 61))):=⟨aj.new w F A,hF.below hb0,hb0⟩
 have HL:Hid ((Instr.loadAt 61 (.pointer (some ⟨w.heap.size,0,none⟩))).run Tryz.prog (w.alloc (.cells (au F A) 61))=.ok (.agg (au F A)) (w.alloc (.cells (au F A) 61))):=(aj.new w F A).loads
 have hm:=OC (w.alloc (.cells (au F A) 61)) F A k ck key (hF.below hb0) hn (hk.below hb0)
 unfold fQ at hb
 cases ht:pU key F
 ·rw[ht] at hb
  obtain rfl:b=false:=by rw[<-hb];rfl
  have eR:AR key F=[]:=by unfold AR;rw[if_neg (by rw[ht];decide)]
  have eE:AU key F=1:=by unfold AU;rw[if_neg (by rw[ht];decide)]
  rw[eR,eE] at hm
  clear hb0 hF hk hn hb ht eR eE
  go_enter Tryz.func88,Tryz.ntmps88
  go_upto_region 1 with fail
  generalize w.alloc (Obj.cells (au F A) 61)=W0 at *
  go_wp2_with (first|(refine af rfl 61 _ rfl _ _ rfl HL.out ?_)|fail)
  refine hm.mono ?_
  rintro e w1 ⟨d1,c1,rfl,hs1,hb1⟩
  have H1:Hid (Below w.heap.size w w1):=H0.out.2.2.trans (hb1.mono H0.out.2.2.size)
  clear hm hb1 H0 HL hs1
  go_wp2
  go_ret
  exact⟨rfl,H1.out⟩
 ·rw[ht] at hb
  have hb2:decide (oL key F=F.tag)=b:=by simpa using hb
  have eR:AR key F=oL key F:=by unfold AR;rw[if_pos ht]
  have eE:AU key F=0:=by unfold AU;rw[if_pos ht]
  rw[eR,eE] at hm
  have HD:Hid (decide (oL key F=F.tag)=b):=hb2
  generalize oL key F=T at *
  clear hb0 hF hk hn hb hb2 ht eR eE
  go_enter Tryz.func88,Tryz.ntmps88
  go_upto_region 1 with fail
  generalize w.alloc (Obj.cells (au F A) 61)=W0 at *
  go_wp2_with (first|(refine af rfl 61 _ rfl _ _ rfl HL.out ?_)|fail)
  refine hm.mono ?_
  rintro e w1 ⟨d1,c1,rfl,hs1,hb1⟩
  have H1:Hid (Below w.heap.size w w1):=H0.out.2.2.trans (hb1.mono H0.out.2.2.size)
  have c12:=(H0.out.1.below hb1).c12
  have e1:=hs1.convert (P:=Tryz.prog) 24 5 9 Tryz.underlying24 Tryz.underlying5 Tryz.underlying9
  have e2:=((H0.out.2.1.below hb1).tag).convert (P:=Tryz.prog) 24 5 9 Tryz.underlying24 Tryz.underlying5 Tryz.underlying9
  have hq:(T==F.tag)=b:=by
   rw[<-HD.out,Bool.eq_iff_iff]
   simp
  clear hm hb1 H0 HL hs1 HD
  go_wp2
  go_ret
  exact⟨rfl,H1.out⟩
end Go.Proofs.YtmffplhaclnehaaGreatDoor
namespace Go.Proofs.YtmffplhaclnehaaGreatDoor
set_option maxRecDepth 20000
set_option maxHeartbeats 6400000
open Go.ChangeShapes Go.WideShapes Go.ChangeAt Go.RowKit
theorem Pn {L:List (List UInt8)}{key:List UInt8}{last:Int}{t:Nat}{x:List UInt8}(hx:L[t]?=some x)(hno:∀ y∈L.take t,fQ key (aX y)=false)(hh:fQ key (aX x)=true):l8 L key last=if (aX x).r<=last then none else some (aX x):=by
 have ht:t<L.length:=(List.getElem?_eq_some_iff.1 hx).1
 have e:L=L.take t++x::L.drop (t+1):=by
  have h1:L.drop t=x::L.drop (t+1):=by
   rw[List.drop_eq_getElem_cons ht]
   congr 1
   rw[List.getElem?_eq_getElem ht] at hx
   exact Option.some.inj hx
  rw[<-h1,List.take_append_drop]
 have hn:((L.take t).map aX).find? (λF=>fQ key F)=none:=by
  rw[List.find?_eq_none]
  intro F hF
  obtain⟨y,hy,rfl⟩:=List.mem_map.1 hF
  simp[hno y hy]
 unfold l8
 rw[e,List.map_append,List.find?_append,hn,List.map_cons,List.find?_cons_of_pos (by simp[hh])]
 rfl
theorem FQ {L:List (List UInt8)}{key:List UInt8}{last:Int}(hno:∀ y∈L,fQ key (aX y)=false):l8 L key last=none:=by
 have hn:(L.map aX).find? (λF=>fQ key F)=none:=by
  rw[List.find?_eq_none]
  intro F hF
  obtain⟨y,hy,rfl⟩:=List.mem_map.1 hF
  simp[hno y hy]
 unfold l8
 rw[hn]
theorem iP.one (w:World)(F:Fr)(A:At)(hF:Seen w F A):iP (w.alloc (.cells (au F A) 61)) (.slice (some ⟨w.heap.size,0,none⟩) 1 1) [F]:=by
 have hb:Below w.heap.size w (w.alloc (.cells (au F A) 61)):=(Below.refl _ _).alloc (Nat.le_refl _) _
 refine⟨[(F,A)],.inr ⟨w.heap.size,1,au F A,rfl,heap_alloc_new _ _,Nat.le_refl _,by decide,?_,?_,λu hu=>A8 (F,A) u hu⟩,λp hp=>?_,rfl⟩
 ·rw[o9];decide
 ·show (wJ F A).take 13=_
  rw[List.take_of_length_le (by show (wJ F A).length<=13;exact Nat.le_refl _)]
  simp[Enc.cs,VD]
 ·obtain rfl:=List.mem_singleton.1 hp
  exact hF.below hb
def Bf (w:World)(R r:Nat)(v:Value)(s:Rv)(i:Int)(key:List UInt8)(ev:Ending)(w':World):Prop:=
 ∃ vo,ev=.returned vo/\iP w' vo (jg s i key).2/\(∀ j,vo.ownBlock=some j->w.heap.size<=j)/\rX w R r v (jg s i key).1 w'
theorem Po (w:World)(R:Nat)(s:Rv)(r:Nat)(v:Value)(ka:Option Addr)(kc:Nat)(ss:List eU)(h:dS w R s r v ka kc ss)(hok:s.ok)(i:Int)(x:Option Addr)(cx:Nat)(key:List UInt8)(hx:ag w x cx key):
  Calls Tryz.prog 45 #[.pointer (some ⟨R,0,none⟩),.int .i64 i,.slice x key.length cx] w λev w'=>Bf w R r v s i key ev w':=by
 have hfm:Tryz.prog.follows .mixedOrders=true:=by kernel_rfl
 have hbd:Below w.heap.size w w.drew:=(Below.refl _ _).drew
 have KT:=IA w.drew r v s.b ss (h.below hbd).buf (s.ep,i)
 obtain⟨L,hL⟩:=ai (fG s.b (s.ep,i))
 rw[<-hL] at KT
 have OI:Hid (∀ y∈L,y.length<=96):=λy hy=>by rw[hL] at hy;exact Dq hok.buf hy
 have Vk:Hid (L.length<=64):=by show L.length<=64;rw[hL];exact zF hok.buf _
 have HFR:Hid (∀ o:Option Fr,l8 L key s.last=o->jg s i key=match o with
   | none=>({ s with b:=jc s.b (s.ep,i) },[])
   | some F=>({ s with b:=jc s.b (s.ep,i),last:=F.r },[F])):=λo ho=>by unfold jg;rw[<-hL,ho];cases o<;>rfl
 have H:Hid (dS w R s r v ka kc ss):=h
 have HX:Hid (ag w x cx key):=hx
 have hS0:(λV=>V.cell? ⟨R,15,none⟩=some (.pointer (some ⟨r,0,none⟩))/\V.cell? ⟨R,11,none⟩=some (.int .i64 s.ep)) w.drew:=⟨h.at'.cell 15 rfl,h.at'.cell 11 rfl⟩
 clear h hx hok hL hbd
 go_enter Tryz.func45,Tryz.ntmps45
 go_upto_region 1 with fail
 refine wp_region_noPanic ?_
 refine wp_region_held (S:=λV=>V.cell? ⟨R,15,none⟩=some (.pointer (some ⟨r,0,none⟩))/\V.cell? ⟨R,11,none⟩=some (.int .i64 s.ep)) (by kernel_rfl) ?_
 have hS:=hS0
 refine tk 0 hS ?_
 refine tk 1 hS ?_
 refine tk 2 hS ?_
 refine tk 3 hS ?_
 refine tk 4 hS ?_
 refine tk 5 hS ?_
 refine tk 6 hS ?_
 refine tk 7 hS ?_
 refine tk 8 hS ?_
 refine aI 9 rfl (by kernel_rfl) (by rfl) (λK hK=>?_)
 clear hS
 go_simp
 refine KT.mono ?_
 rintro ev w1 ⟨vt,rfl,Yl,hTo⟩
 have hG1:=fB.go (H.out.below (Below.refl _ _).drew) Yl
 obtain⟨v1,kb,kd,ss1,p1,a1,o1⟩:=hG1
 obtain⟨os,hro,hso,Ym,hown⟩:=hTo
 obtain⟨va,vc,rfl,-⟩:=hro.shape
 have H1:Hid (dS w1 R { s with b:=jc s.b (s.ep,i) } r v1 kb kd ss1):=p1
 have HA1:Hid (Apart (lM R r v) w w1/\∀ j,v1.ownBlock=some j->v.ownBlock=some j\/w.heap.size<=j):=⟨(Apart.of_below (Below.refl _ _).drew).trans a1 (λ_ h=>.inl h),o1⟩
 have Yn:Hid (Row qH w1 (.slice va os.length vc) os/\qJ w1 os):=⟨hro,hso⟩
 have Sz:Hid (os.map Prod.fst=L):=Ym
 have HX1:Hid (ag w1 x cx key):=(HX.out.below (Below.refl _ _).drew).apart a1 λj hj=>(H.out.below (Below.refl _ _).drew).plain hj
 clear p1 a1 o1 hro hso Ym hown Yl KT
 refine hK.out _ _ (⟨H1.out.at'.cell 15 rfl,H1.out.at'.cell 11 rfl⟩) (λhS=>?_)
 clear hK
 (try simp only[Act.put,sT])
 refine tk 10 hS ?_
 refine wpAnyH_done (by kernel_rfl) (NoPanic.normal ?_) _
 clear hS hS0
 have Yo:os.length<=64:=by rw[<-List.length_map (f:=Prod.fst),Sz.out];exact Vk.out
 have NIL:Hid (∀ wr,Below w1.heap.size w1 wr->l8 L key s.last=none->Bf w R r v s i key (.returned (.slice none 0 0)) wr):=λwr hb hn=>by
  have e:=HFR.out none hn
  refine⟨_,rfl,by rw[e];exact iP.nil _,(λj hj=>by cases hj),?_⟩
  rw[e]
  exact⟨v1,kb,kd,ss1,H1.out.below hb,HA1.out.1.trans (Apart.of_below (F:=λ_=>False) hb) (λ_ h=>h.elim),HA1.out.2⟩
 go_wp2
 go_loopw [8] (λiv wr=>∃ (t:Nat),t<=os.length/\iv=.int .i64 (t:Int)/\Below w1.heap.size w1 wr/\∀ y∈L.take t,fQ key (aX y)=false) (λiv _=>(os.length-intOf iv).toNat)
 case atStart=>exact⟨0,by omega,rfl,Below.refl _ _,by simp⟩
 case round=>
  obtain⟨t,ht,rfl,hbr,hno⟩:=hrel
  by_cases htc:t<os.length
  ·obtain⟨y,hy⟩:∃ y,os[t]?=some y:=⟨os[t]'htc,List.getElem?_eq_getElem htc⟩
   have hro:=Yn.out.1.below hbr
   obtain⟨-,qq,rfl,hcx⟩:=hro.get hy
   have hc1:=hcx 0 _ rfl
   rw[show t*qH.n+0=t from by show t*1+0=t;omega] at hc1
   have hym:y∈os:=List.mem_of_getElem? hy
   have hyL:L[t]?=some y.1:=by rw[<-Sz.out,List.getElem?_map,hy];rfl
   have hye:=OI.out y.1 (List.mem_of_getElem? hyL)
   have KG:=yZ wr y.2.1 y.2.2 y.1 ((Yn.out.2 y hym).below hbr) (by omega)
   obtain⟨yb,ya,yc⟩:=y
   dsimp only at hc1 KG hye hyL
   obtain⟨F,hF⟩:=ai (aX yb)
   rw[<-hF] at KG
   have hFn:F.n<18446744073709551616:=by rw[hF];exact Tu yb
   have Tw:Hid (L[t]?=some yb/\F=aX yb/\F.n<18446744073709551616/\∀ y∈L.take t,fQ key (aX y)=false):=⟨hyL,hF,hFn,hno⟩
   have Vb:Hid (Below w1.heap.size w1 wr):=hbr
   clear hcx hym hyL hye hy hF hFn hno hro hbr
   go_wp2_with fail
   refine KG.mono ?_
   rintro ev w4 ⟨A,rfl,VG,hb4⟩
   obtain⟨W5,hst,yA,hb5⟩:=nL w4 F A
   have vH:Hid (Below w1.heap.size w1 W5):=Vb.out.trans ((hb4.trans (hb5.mono hb4.size)).mono Vb.out.size)
   have HST:Hid ((Instr.storeAt 61 (.pointer (some ⟨w4.heap.size,0,none⟩)) (.agg (au F A))).run Tryz.prog (w4.alloc (.cells #[.int .i64 0,.int .i64 0,.int .i64 0,.int .i64 0,.int .i64 0,.int .i64 0,.int .u64 0,.int .i64 0,.int .i64 0,.int .i64 0,.slice none 0 0,.slice none 0 0,.slice none 0 0] 61))=.ok () W5):=hst
   have rV:Hid ((Instr.loadAt 61 (.pointer (some ⟨w4.heap.size,0,none⟩))).run Tryz.prog W5=.ok (.agg (au F A)) W5):=yA.loads
   have Dl:Hid (aj W5 w4.heap.size F A/\Seen W5 F A):=⟨yA,VG.below hb5⟩
   have KH:=Fw W5 F A x cx key (VG.below hb5) Tw.out.2.2.1 (HX1.out.below vH.out) _ rfl
   clear KG hst yA hb4 hb5 VG hc1
   cases hh:fQ key F
   ·rw[hh] at KH
    have Pt:Hid (∀ y∈L.take (t+1),fQ key (aX y)=false):=λy hy=>by
     rw[List.take_add_one,Tw.out.1] at hy
     rcases List.mem_append.1 hy with hy|hy
     ·exact Tw.out.2.2.2 y hy
     ·obtain rfl:y=yb:=by simpa using hy
      rw[<-Tw.out.2.1];exact hh
    clear hh
    go_wp2_with (first|(refine ah rfl 61 _ _ rfl _ _ rfl rfl HST.out ?_)|(refine af rfl 61 _ rfl _ _ rfl rV.out ?_)|fail)
    refine KH.mono ?_
    rintro ev w6 ⟨rfl,hb6⟩
    have VH:Hid (Below w1.heap.size w1 w6):=vH.out.trans (hb6.mono vH.out.size)
    clear KH HST rV hb6
    go_wp2
    go_roundw
    case rel=>exact⟨t+1,by omega,by go_num,VH.out,Pt.out⟩
    case measure=>simp[intOf];omega
   ·rw[hh] at KH
    have XV:Hid (l8 L key s.last=if F.r<=s.last then none else some F):=by
     have:=Pn (last:=s.last) Tw.out.1 Tw.out.2.2.2 (by rw[<-Tw.out.2.1];exact hh)
     rw[<-Tw.out.2.1] at this
     exact this
    clear hh
    go_wp2_with (first|(refine ah rfl 61 _ _ rfl _ _ rfl rfl HST.out ?_)|(refine af rfl 61 _ rfl _ _ rfl rV.out ?_)|fail)
    refine KH.mono ?_
    rintro ev w6 ⟨rfl,hb6⟩
    have VH:Hid (Below w1.heap.size w1 w6):=vH.out.trans (hb6.mono vH.out.size)
    have OY:Hid (aj w6 w4.heap.size F A/\Seen w6 F A):=⟨Dl.out.1.below hb6,Dl.out.2.below hb6⟩
    clear KH HST rV hb6 Dl
    obtain⟨N,hN⟩:=ai w4.heap.size
    rw[<-hN] at OY ⊢
    clear hN
    have k5:=OY.out.1.c5
    have c16:w6.cell? ⟨R,16,none⟩=some (.int .i64 s.last):=(H1.out.below VH.out).at'.cell 16 rfl
    by_cases hle:F.r<=s.last
    ·have HN:=NIL.out
     go_wp2_with fail
     go_region
     clear k5 c16
     go_wp2
     go_ret
     exact HN _ VH.out.drew (XV.out.trans (if_pos hle))
    ·have d5:decide (F.r<=s.last)=false:=decide_eq_false hle
     have Zp:Hid (l8 L key s.last=some F):=XV.out.trans (if_neg hle)
     go_wp2_with fail
     go_region
     clear k5 c16
     obtain⟨V0,hV0⟩:=ai w6.drew
     have HB0:Below w1.heap.size w1 V0:=by rw[hV0];exact VH.out.drew
     have Ms:aj V0 N F A/\Seen V0 F A:=by rw[hV0];exact⟨OY.out.1.below (Below.refl _ _).drew,OY.out.2.below (Below.refl _ _).drew⟩
     obtain⟨V1,hV1⟩:=ai (V0.setCell ⟨R,16,none⟩ (.int .i64 F.r))
     have hD0:=H1.out.below HB0
     obtain⟨q1,a1⟩:=hD0.set 16 (.int .i64 F.r) (t:={ s with b:=jc s.b (s.ep,i),last:=F.r }) (kb:=kb) (kd:=kd) rfl rfl hD0.key
     rw[<-hV1] at q1 a1
     have hF1:aj V1 N F A:=by
      rw[hV1]
      refine(heap_setCell_other _ _ _ _ (λe=>?_)).trans Ms.1
      have e1:=hD0.at'
      have e2:N=R:=e
      have h5:=Ms.1
      unfold AY at e1
      unfold aj at h5
      rw[<-e2,h5] at e1
      simp at e1
     have Yv:Hid ((Instr.storeAt 3 (.pointer (some ⟨R,16,none⟩)) (.int .i64 F.r)).run Tryz.prog V0=.ok () V1):=by rw[hV1];exact zG V0 _ _ _ (hD0.at'.cell 16 rfl) (hD0.at'.fz 16)
     have mO:Hid ((Instr.loadAt 61 (.pointer (some ⟨N,0,none⟩))).run Tryz.prog V1=.ok (.agg (au F A)) V1):=hF1.loads
     have Yw:Seen V1 F A:=Ms.2.apart a1 λj hj=>hD0.plain hj
     have hb2:Below V1.heap.size V1 (V1.alloc (.cells (au F A) 61)):=(Below.refl _ _).alloc (Nat.le_refl _) _
     have HE:Hid (Bf w R r v s i key (.returned (.slice (some ⟨V1.heap.size,0,none⟩) 1 1)) (V1.alloc (.cells (au F A) 61))):=by
      have e:=HFR.out (some F) Zp.out
      refine⟨_,rfl,by rw[e];exact iP.one V1 F A Yw,λj hj=>?_,?_⟩
      ·cases hj
       exact Nat.le_trans HA1.out.1.size (Nat.le_trans HB0.size a1.size)
      ·rw[e]
       refine⟨v1,kb,kd,ss1,q1.below hb2,((HA1.out.1.trans (Apart.of_below (F:=λ_=>False) HB0) (λ_ h=>h.elim)).trans a1 (rX.own HA1.out.2)).trans (Apart.of_below (F:=λ_=>False) hb2) (λ_ h=>h.elim),HA1.out.2⟩
     have k5':V0.cell? ⟨N,5,none⟩=some (.int .i64 F.r):=Ms.1.c5
     clear q1 a1 hF1 Yw hb2 hV1 hD0 Ms HB0 OY VH
     go_upto_region 9 with fail
     rw[<-hV0]
     clear hV0
     go_wp2_with (first|(refine ah rfl 3 _ _ rfl _ _ rfl rfl Yv.out ?_)|(refine af rfl 61 _ rfl _ _ rfl mO.out ?_)|(refine uD rfl 41 1 _ rfl [(0,.agg (au F A))] _ rfl (Dp V1 F A) ?_)|fail)
     go_ret
     exact HE.out
  ·have hte:t=L.length:=by rw[<-Sz.out,List.length_map];omega
   have HE:Hid (Bf w R r v s i key (.returned (.slice none 0 0)) wr):=NIL.out wr hbr (FQ λy hy=>hno y (by rw[hte,List.take_length];exact hy))
   have hdt:decide ((t:Int)<(os.length:Int))=false:=decide_eq_false (by omega)
   clear hbr hno hte
   go_wp2
   go_ret
   exact HE.out
end Go.Proofs.YtmffplhaclnehaaGreatDoor
