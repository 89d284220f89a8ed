/-
  A receiver and a node side by side; what the receiver's acts leave as it was.
-/
import Derived.Test.YthogohkieiogiaaGreatDoorPeS
import Derived.Test.YthogohkieiogiaaGreatDoorTesQ
import Derived.Test.YthogohkieiogiaaGreatDoorGetTag
namespace Go.Proofs.YthogohkieiogiaaGreatDoor
set_option maxRecDepth 20000
open Go.ChangeShapes Go.WideShapes Go.ChangeAt Go.RowKit
theorem cf_laid (W:World)(c:Cf):∃ W',(Instr.storeAt 24 (.pointer (some ⟨W.heap.size,0,none⟩)) (.agg (cfC c))).run Tryz.prog (W.alloc (.cells (cfC Cf.zero) 24))=.ok () W'/\CfAt W' W.heap.size c/\Below W.heap.size W W':=by
 have h0:CfAt (W.alloc (.cells (cfC Cf.zero) 24)) W.heap.size Cf.zero:=CfAt.new W _
 exact⟨_,h0.stores c,h0.stored c,below_setRow (Go.Joins.below_alloc1 _ _) (Nat.le_refl _) _⟩
structure FBox (w:World)(k:Nat)(F:Fr)(A:At):Prop where
 at':FrAt w k F A
 seen:Seen w F A
theorem FBox.below {w w':World}{k:Nat}{F:Fr}{A:At}(h:FBox w k F A)(hb:Below w.heap.size w w'):FBox w' k F A:=⟨h.at'.below hb,h.seen.below hb⟩
theorem fbox_laid {W:World}{F:Fr}{A:At}(hs:Seen W F A):∃ W',(Instr.storeAt 41 (.pointer (some ⟨W.heap.size,0,none⟩)) (.agg (frC F A))).run Tryz.prog (W.alloc (.cells (frC Fr.zero At.zero) 41))=.ok () W'/\FBox W' W.heap.size F A/\Below W.heap.size W W':=by
 obtain⟨W',h1,h2,h3,h4⟩:=pfr_laid hs
 exact⟨W',h1,⟨h2,h3⟩,h4⟩
def usE:Cf:=⟨3,0,400,1,16,400,400,1,2,8⟩
theorem usE_ok:okB usE=true:=by decide
theorem usE_new {own:List UInt8}{i inc:Int}(h:own.length=16)(hi:0<=i/\i<3)(hc:0<=inc/\inc<=65535):ecB usE own i inc=true:=ecB_iff.2 ⟨usE_ok,hi.1,hi.2,hc.1,hc.2,h⟩
theorem usE_no {own:List UInt8}{i inc:Int}(h:¬ own.length=16):ecB usE own i inc=false:=by
 rw[Bool.eq_false_iff]
 intro hh
 exact h (ecB_iff.1 hh).2.2.2.2.2
theorem usE_duet {own:List UInt8}(h:own.length=16):Duet (ecNew usE own 0 1) (ecNew usE own 1 1):=
 ⟨ecNew_ok (usE_new h (by decide) (by decide)),ecNew_ok (usE_new h (by decide) (by decide)),rfl,rfl,by show (0:Int)≠1;decide⟩
end Go.Proofs.YthogohkieiogiaaGreatDoor
namespace Go.Proofs.YthogohkieiogiaaGreatDoor
set_option maxRecDepth 20000
structure HearS (A0 B0 A1:Ec)(x y:List UInt8)(P Q:Fr)(hi:Int)(k0:List UInt8):Prop where
 askE:A0.askE 1 1000=0
 askR:A0.askR 1 1000=x
 askV:A0.askV 1 1000=A1
 opE:B0.opE x=0
 opF:B0.opF x=P
 repE:B0.repE P 1100 1 0 0 k0=0
 repR:B0.repR P 1100 1 0 0 k0=y
 op2E:A1.opE y=0
 op2F:A1.opF y=Q
 pn:P.n<18446744073709551616
 heE:A1.heE Q 1100=0
 heA:A1.heA Q 1100=⟨1,0,hi,1,0,0,k0⟩
 hi0:0<=hi
 hi1:hi<=900
 xl:x.length=21
 yl:y.length<=53
theorem hearS (own k0:List UInt8)(h:own.length=16)(hk:k0.length=16):∃ A1 x y P Q hi,HearS (ecNew usE own 0 1) (ecNew usE own 1 1) A1 x y P Q hi k0:=by
 have hD:=usE_duet h
 have hc0:(ecNew usE own 0 1).ct<4294967295:=show (0:Nat)<4294967295 by omega
 have hnon:(ecNew usE own 0 1).non=4294967297:=by
  show (1:Int).toNat*4294967296+(0+1)=4294967297
  rw[show (1:Int).toNat=1 from rfl]
 obtain⟨a1,a2,a3⟩:=hD.asked 1000 (by decide) hc0
 rw[hnon] at a3
 have hP:sealF (pairK own 0 1) (ecPing 0 1 4294967297)=sealF (pairK (ecNew usE own 0 1).ms (ecNew usE own 0 1).i (ecNew usE own 1 1).i) (ecPing (ecNew usE own 0 1).i (ecNew usE own 1 1).i (ecNew usE own 0 1).non):=by rw[hnon];rfl
 have hQ:sealF (pairK own 0 1) (ecPong 1 0 4294967297 1100 1 0 0 k0)=sealF (pairK (ecNew usE own 0 1).ms (ecNew usE own 0 1).i (ecNew usE own 1 1).i) (ecPong (ecNew usE own 1 1).i (ecNew usE own 0 1).i (ecNew usE own 0 1).non 1100 1 0 0 k0):=by rw[hnon];rfl
 obtain⟨r1,r2,r3⟩:=hD.replied hc0 1100 1 0 0 k0 hk (by decide) (by decide) (by decide) (by decide) _ hP ((ecNew usE own 0 1).askV 1 1000) (by
  have:(ecNew usE own 0 1).askV 1 1000={ ecNew usE own 0 1 with ct:=(ecNew usE own 0 1).ct+1,ws:=(ecNew usE own 0 1).ws.set (1:Int).toNat (some ((ecNew usE own 0 1).non,1000)) }:=if_pos a1
  rw[this]
  exact⟨rfl,rfl⟩)
 rw[hnon] at r3
 have hrd:rightB (sealF (pairK own 0 1) (ecPong 1 0 4294967297 1100 1 0 0 k0))=true:=eseal_right (hD.pong _ 1100 1 0 0 k0 hk (by decide) (by decide) (by decide) (by decide))
 obtain⟨hh,hA⟩:=hD.heard 1000 (by decide) hc0 1100 1 0 0 k0 hk (by decide) (by decide) (by decide) (by decide) _ hQ 1100 (by decide)
 have hE0:((ecNew usE own 0 1).askV 1 1000).heE (sealF (pairK own 0 1) (ecPong 1 0 4294967297 1100 1 0 0 k0)) 1100=0:=by
  refine hh.trans ?_
  rw[if_neg (by decide)]
  exact if_neg (by show ¬ (400:Int)<1100-1000;decide)
 refine⟨_,_,_,_,_,mostN 100 3,⟨a1,rfl,rfl,a2,a3,r1,rfl,r2,r3,?_,hE0,?_,by decide,by decide,?_,?_⟩⟩
 ·show (4294967297:Nat)<18446744073709551616;omega
 ·refine hA.trans ((if_pos hE0).trans ?_)
  show (⟨1,1100-1100,1100+mostN (1100-1000) 3-1100,1,0,0,k0⟩:An)=⟨1,0,mostN 100 3,1,0,0,k0⟩
  rw[show (1100:Int)+mostN (1100-1000) 3-1100=mostN 100 3 by rw[show (1100:Int)-1000=100 from rfl];omega]
  rfl
 ·rw[show (ecNew usE own 0 1).askR 1 1000=sealR (pairK own 0 1) (ecPing 0 1 (ecNew usE own 0 1).non) from if_pos a1]
  exact eping_len (hD.ping _)
 ·have h53:=(put_len (sealF (pairK own 0 1) (ecPong 1 0 4294967297 1100 1 0 0 k0)) hrd).2.1
  have hb:=hD.pong 4294967297 1100 1 0 0 k0 hk (by decide) (by decide) (by decide) (by decide)
  have hR:(ecNew usE own 1 1).repR (sealF (pairK own 0 1) (ecPing 0 1 4294967297)) 1100 1 0 0 k0=putL (sealF (pairK own 0 1) (ecPong 1 0 4294967297 1100 1 0 0 k0)):=by
   unfold Ec.repR
   have hr:(ecNew usE own 1 1).repB (sealF (pairK own 0 1) (ecPing 0 1 4294967297))=true:=by
    unfold Ec.repB
    have hpr:rightB (sealF (pairK own 0 1) (ecPing 0 1 4294967297))=true:=eseal_right (hD.ping 4294967297)
    rw[hpr]
    rfl
   rw[if_pos hr]
   unfold sealR
   exact if_pos hb
  show ((ecNew usE own 1 1).repR (sealF (pairK own 0 1) (ecPing 0 1 4294967297)) 1100 1 0 0 k0).length<=53
  rw[hR]
  exact h53
end Go.Proofs.YthogohkieiogiaaGreatDoor
namespace Go.Proofs.YthogohkieiogiaaGreatDoor
set_option maxRecDepth 20000
set_option maxHeartbeats 1600000
open Go.ChangeShapes Go.WideShapes Go.ChangeAt Go.RowKit
theorem usual_ok (w:World):Calls Tryz.prog 4 #[.bool false] w λe w'=>e=.returned (.agg (cfC usE))/\Below w.heap.size w w':=by
 have hb:∀ W,(Instr.build 24 #[(0,.int .i64 3),(2,.int .i64 400),(3,.int .i64 1),(4,.int .i64 16),(5,.int .i64 400),(6,.int .i64 400),(7,.int .i64 1),(8,.int .i64 2),(9,.int .i64 8)]).run Tryz.prog W=.ok (.agg (cfC usE)) W:=λW=>by
  kernel_rfl
 have b0:Below w.heap.size w (w.alloc (.cells (cfC Cf.zero) 24)):=Go.Joins.below_alloc1 _ _
 have z0:CfAt (w.alloc (.cells (cfC Cf.zero) 24)) w.heap.size Cf.zero:=CfAt.new w _
 obtain⟨W1,hst,hat,hb1⟩:=cf_laid (w.alloc (.cells (cfC Cf.zero) 24)) usE
 have hsz:(w.alloc (.cells (cfC Cf.zero) 24)).heap.size=w.heap.size+1:=by simp
 have z1:CfAt W1 w.heap.size Cf.zero:=z0.below hb1
 have HE:Hid (CfAt (W1.setRow w.heap.size (cfC usE)) w.heap.size usE/\Below w.heap.size w (W1.setRow w.heap.size (cfC usE))):=
  ⟨z1.stored usE,below_setRow (b0.trans (hb1.mono b0.size)) (Nat.le_refl _) _⟩
 rw[hsz] at hst hat
 have HB:Hid ((Instr.build 24 #[(0,.int .i64 3),(2,.int .i64 400),(3,.int .i64 1),(4,.int .i64 16),(5,.int .i64 400),(6,.int .i64 400),(7,.int .i64 1),(8,.int .i64 2),(9,.int .i64 8)]).run Tryz.prog ((w.alloc (.cells (cfC Cf.zero) 24)).alloc (.cells (cfC Cf.zero) 24))=.ok (.agg (cfC usE)) ((w.alloc (.cells (cfC Cf.zero) 24)).alloc (.cells (cfC Cf.zero) 24))):=hb _
 have HS:Hid ((Instr.storeAt 24 (.pointer (some ⟨w.heap.size+1,0,none⟩)) (.agg (cfC usE))).run Tryz.prog ((w.alloc (.cells (cfC Cf.zero) 24)).alloc (.cells (cfC Cf.zero) 24))=.ok () W1):=hst
 have HL:Hid ((Instr.loadAt 24 (.pointer (some ⟨w.heap.size+1,0,none⟩))).run Tryz.prog W1=.ok (.agg (cfC usE)) W1):=hat.loads
 have HT:Hid ((Instr.storeAt 24 (.pointer (some ⟨w.heap.size,0,none⟩)) (.agg (cfC usE))).run Tryz.prog W1=.ok () (W1.setRow w.heap.size (cfC usE))):=z1.stores usE
 clear hb z0 b0 hst hat hb1 z1 hsz
 go_enter Tryz.func4,Tryz.ntmps4
 go_wp2_with (first|(refine wpList_build_run rfl 24 _ rfl [(0,.int .i64 3),(2,.int .i64 400),(3,.int .i64 1),(4,.int .i64 16),(5,.int .i64 400),(6,.int .i64 400),(7,.int .i64 1),(8,.int .i64 2),(9,.int .i64 8)] _ rfl HB.out ?_)|(refine wpList_store_run rfl 24 _ _ rfl _ _ rfl rfl HS.out ?_)|(refine wpList_store_run rfl 24 _ _ rfl _ _ rfl rfl HT.out ?_)|(refine wpList_load_run rfl 24 _ rfl _ _ rfl HL.out ?_)|fail)
 refine bodyPost_ret (res_cf rfl rfl HE.out.1) rfl ?_
 exact⟨rfl,HE.out.2⟩
def nought16:List UInt8:=List.replicate 16 0
def wakeS:Ec:=ecNew usE nought16 1 5
theorem heard_ok (w:World)(hT:Tabs w)(h2:3<=w.heap.size):Calls Tryz.prog 8 #[] w λe w'=>e=.returned (.bool true)/\Below w.heap.size w w':=by
 have KU:=usual_ok
 have KN:Hid (∀ V p,Below w.heap.size w V->Sees V p 16 nought16->Calls Tryz.prog 5 #[.agg (cfC usE),.slice p 16 16,.int .i64 1,.int .i64 5] V λe w'=>∃ R d cd,e=.returned (.tuple #[.pointer (some ⟨R,0,none⟩),.int .i64 0])/\ESolo w w' R wakeS d cd):=λV p hV hs=>by
  refine(ESolo.new w V h2 (hT.below hV) hV usE p 16 nought16 1 5 hs (by decide)).mono ?_
  rintro e w' ⟨R,d,cd,rfl,h,_⟩
  exact⟨R,d,cd,rfl,h⟩
 clear hT h2
 go_enter Tryz.func8,Tryz.ntmps8
 go_wp2_with fail
 refine wp_region_noPanic ?_
 refine wp_region_held (S:=λV=>Below w.heap.size w V) (by kernel_rfl) ?_
 have hS:=(Below.refl w.heap.size w).drew
 refine any_two 0 1 rfl rfl (by kernel_rfl) (by rfl) (by rfl) (λK hK=>?_) (λK hK=>?_)
 ·have hSS:_:=hS
  clear hS
  go_simp
  refine(KU _).mono ?_
  rintro ev wu ⟨rfl,hbu⟩
  (try replace hsm:=Sees.below hsm hbu)
  refine hK.out _ _ (hSS.trans (hbu.mono hSS.size)) (λhS=>?_)
  clear hK
  (try simp only[Act.put,sT])
  refine any_one 1 rfl (by kernel_rfl) (by rfl) (λK hK=>?_)
  have hSS:_:=hS
  clear hS
  refine op_make16 _ _ rfl rfl rfl ?_
  intro wm hsm hbm
  refine hK.out _ _ (hSS.trans (hbm.mono hSS.size)) (λhS=>?_)
  clear hK
  (try simp only[Act.put,sT])
  refine any_one 2 rfl (by kernel_rfl) (by rfl) (λK hK=>?_)
  have hSS:_:=hS
  clear hS
  go_simp
  refine(KN.out _ _ hSS hsm).mono ?_
  rintro ev w3 ⟨R,d,cd,rfl,hP⟩
  clear hSS hsm
  refine hK.out _ _ (hP.bel) (λhS=>?_)
  clear hK
  (try simp only[Act.put,sT])
  refine tk 3 hS ?_
  refine tk 4 hS ?_
  refine tk 5 hS ?_
  refine tk 6 hS ?_
  refine tk 7 hS ?_
  refine wpAnyH_done (by kernel_rfl) ?_ _
  refine NoPanic.normal ?_
  clear hS
  have HE:Hid (Below w.heap.size w _):=hP.bel
  clear hP
  go_wp2
  go_ret
  exact⟨by simp,HE.out⟩
 ·have hSS:_:=hS
  clear hS
  refine op_make16 _ _ rfl rfl rfl ?_
  intro wm hsm hbm
  refine hK.out _ _ (hSS.trans (hbm.mono hSS.size)) (λhS=>?_)
  clear hK
  (try simp only[Act.put,sT])
  refine any_one 0 rfl (by kernel_rfl) (by rfl) (λK hK=>?_)
  have hSS:_:=hS
  clear hS
  go_simp
  refine(KU _).mono ?_
  rintro ev wu ⟨rfl,hbu⟩
  (try replace hsm:=Sees.below hsm hbu)
  refine hK.out _ _ (hSS.trans (hbu.mono hSS.size)) (λhS=>?_)
  clear hK
  (try simp only[Act.put,sT])
  refine any_one 2 rfl (by kernel_rfl) (by rfl) (λK hK=>?_)
  have hSS:_:=hS
  clear hS
  go_simp
  refine(KN.out _ _ hSS hsm).mono ?_
  rintro ev w3 ⟨R,d,cd,rfl,hP⟩
  clear hSS hsm
  refine hK.out _ _ (hP.bel) (λhS=>?_)
  clear hK
  (try simp only[Act.put,sT])
  refine tk 3 hS ?_
  refine tk 4 hS ?_
  refine tk 5 hS ?_
  refine tk 6 hS ?_
  refine tk 7 hS ?_
  refine wpAnyH_done (by kernel_rfl) ?_ _
  refine NoPanic.normal ?_
  clear hS
  have HE:Hid (Below w.heap.size w _):=hP.bel
  clear hP
  go_wp2
  go_ret
  exact⟨by simp,HE.out⟩
end Go.Proofs.YthogohkieiogiaaGreatDoor
namespace Go.Proofs.YthogohkieiogiaaGreatDoor
set_option maxRecDepth 20000
def hrR (last:List UInt8):Rv:=⟨usC,1,1,0,0,backL 16 last,⟨8,0,[]⟩,-1⟩
def hrW (last:List UInt8)(n:Nat)(v:List UInt8):Rv:=⟨usC,1,1,0,0,backL 16 last,⟨8,0,[⟨1,(n:Int),v⟩]⟩,-1⟩
theorem hr_anchor {last:List UInt8}(hl:last.length=16):ancE (newR usC 1) 1 0 0 (backL 16 last)=0/\ancV (newR usC 1) 1 0 0 (backL 16 last)=hrR last:=
 anc_new (backL_len _ _ hl) (by decide) (by decide) (by decide)
theorem hr_when {n:Nat}(h2:2<=n){M:Int}(hM:M<=2000):¬ whN usC 1 0 (n:Int)<=M:=by
 unfold whN atN
 rw[show rndN usC=1200 by decide,show usC.d=1 from rfl,show usC.s=400 from rfl]
 omega
theorem hr_offer {last:List UInt8}{n:Nat}(h2:2<=n)(h15:n<=15){v:List UInt8}{F:Fr}(hE:getE v=0)(hF:getF v=F)(hk:F.k=1)(hf:F.f=1)(he:F.e=1)(hr:F.r=(n:Int))(hv:v.length<=53){M:Int}(h0:0<=M)(hM:M<=2000):
  offE (hrR last) v M=0/\offV (hrR last) v M=hrW last n v:=by
 obtain⟨r1,r2,r3,r4⟩:=rsec_us (me:=1) (bg:=0) (ii:=(n:Int)) (M:=M) (by decide) (by decide) ⟨by omega,by omega⟩
 rw[Int.zero_add] at r1 r3 r4
 rw[if_pos ⟨h0,by omega⟩,if_neg (hr_when h2 hM)] at r1
 have e3:idxN usC 0 (n:Int)=(n:Int):=by
  unfold idxN
  rw[if_pos ⟨r4,r3⟩,Int.sub_zero]
 have hB:offB (hrR last) v M=0:=by
  unfold offB
  rw[if_neg (by simp[hE]),hF,if_neg,if_neg,if_neg,hr]
  ·exact r1
  ·rw[hr];show ¬ (n:Int) <= -1;omega
  ·rw[he];show ¬ ((1:Int)<0\/(1:Int)≠1);omega
  ·rw[hk,hf];show ¬ ((1:Int)≠1\/(1:Int)≠1);omega
 have hp:=put_first (p:=8) (by decide) (e:=1) (i:=(n:Int)) (x:=v) (argB_iff.2 ⟨by decide,by decide,by omega,by omega,by omega⟩)
 unfold offE offV
 rw[if_neg (λh=>h hB),if_neg (λh=>h hB),hF,he,hr]
 refine⟨?_,?_⟩
 ·show bputE ⟨8,0,[]⟩ 1 (idxN usC 0 (n:Int)) v=0
  rw[e3];exact hp.1
 ·show ({ hrR last with b:=putV ⟨8,0,[]⟩ 1 (idxN usC 0 (n:Int)) v }:Rv)=_
  rw[e3,hp.2];rfl
theorem it_take (n:Nat)(v:List UInt8)(i:Int):btakeL ⟨8,0,[⟨1,(n:Int),v⟩]⟩ (1,i)=(if i=(n:Int) then [v] else [])/\takeV ⟨8,0,[⟨1,(n:Int),v⟩]⟩ (1,i)=⟨8,0,if i=(n:Int) then [] else [⟨1,(n:Int),v⟩]⟩:=by
 by_cases h:i=(n:Int)
 ·subst h
  simp[btakeL,takeV,isK,It.k]
 ·have h2:¬ (n:Int)=i:=λe=>h e.symm
  simp[btakeL,takeV,isK,It.k,h,h2]
theorem hr_rel {last:List UInt8}{n:Nat}{v k:List UInt8}:∀ t:Nat,t<n->relN k (n:Int) 1 (telS (hrW last n v) (n:Int) k) t=(telS (hrW last n v) (n:Int) k,[])
 | 0,_=>rfl
 | t + 1, ht => by
   have ih := hr_rel (last := last) (n := n) (v := v) (k := k) t (by omega)
   have hi : ¬ (1 + (t : Int)) = (n : Int) := by omega
   obtain ⟨k1, k2⟩ := it_take n v (1 + (t : Int))
   rw [if_neg hi] at k1 k2
   simp only [relN]
   rw [ih]
   dsimp only
   unfold freeR
   rw [show btakeL (telS (hrW last n v) (n : Int) k).b ((telS (hrW last n v) (n : Int) k).ep, 1 + (t : Int)) = [] from k1]
   simp only [freeL, List.map_nil, List.find?_nil]
   rw [show takeV (telS (hrW last n v) (n : Int) k).b ((telS (hrW last n v) (n : Int) k).ep, 1 + (t : Int)) = (telS (hrW last n v) (n : Int) k).b from k2]
   rfl
theorem hr_tell {last:List UInt8}(hl:last.length=16){n:Nat}(h2:2<=n)(h15:n<=15){v:List UInt8}{F:Fr}(hF:getF v=F)(hr:F.r=(n:Int)){k:List UInt8}(hk:k=backL (16-n) last):
  telE (hrW last n v) 1 (n:Int) k=0/\(telR (hrW last n v) 1 (n:Int) k).2=if holdsB k F=true then [F] else []:=by
 have hka:keyArg (hrW last n v) (n:Int) k=true:=keyArg_iff.2 ⟨by omega,by show (n:Int)<=16;omega,by rw[hk];exact backL_len _ _ hl⟩
 have hf:folP 0 (backL 16 last) (n:Int) k=0:=by
  unfold folP
  rw[hk,if_pos ⟨by omega,by omega,by omega,by omega,backL_len _ _ hl,backL_len _ _ hl⟩,if_neg (by omega),if_pos]
  rw[<-backL_add,show ((n:Int)-0).toNat+(16-n)=16 by omega]
 have he:telE (hrW last n v) 1 (n:Int) k=0:=by
  unfold telE
  rw[if_neg (by show ¬ ((1:Int)<0\/(1:Int)≠1);omega),if_neg (by simp[hka]),if_neg (by show ¬ (n:Int)<=0;omega)]
  show ((folP 0 (backL 16 last) (n:Int) k:Nat):Int)=0
  rw[hf];rfl
 have hrr:telR (hrW last n v) 1 (n:Int) k=relN k (n:Int) 1 (telS (hrW last n v) (n:Int) k) n:=by
  rw[tel_yes he]
  show relN _ _ ((0:Int)+1) _ ((n:Int)-0).toNat=_
  rw[show ((n:Int)-0).toNat=n by omega]
  rfl
 refine⟨he,?_⟩
 rw[hrr]
 obtain⟨m,rfl⟩:∃ m,n=m+1:=⟨n-1,by omega⟩
 have ih:=hr_rel (last:=last) (n:=m+1) (v:=v) (k:=k) m (by omega)
 have hi:1+(m:Int)=((m+1:Nat):Int):=by omega
 obtain⟨k1,k2⟩:=it_take (m+1) v (1+(m:Int))
 rw[if_pos hi] at k1 k2
 have hb:(backP k (((m+1:Nat):Int)-(1+(m:Int)))).1=k:=by
  rw[show ((m+1:Nat):Int)-(1+(m:Int))=0 by omega,hk]
  unfold backP
  rw[if_pos ⟨backL_len _ _ hl,by decide,by decide⟩]
  rfl
 simp only[relN]
 rw[ih,hb]
 dsimp only
 unfold freeR
 rw[show btakeL (telS (hrW last (m+1) v) ((m+1:Nat):Int) k).b ((telS (hrW last (m+1) v) ((m+1:Nat):Int) k).ep,1+(m:Int))=[v] from k1]
 have hlast:¬ F.r<=(telS (hrW last (m+1) v) ((m+1:Nat):Int) k).last:=by rw[hr];show ¬ ((m+1:Nat):Int) <= -1;omega
 unfold freeL
 rw[List.map_cons,List.map_nil,hF]
 by_cases hh:holdsB k F=true
 ·rw[List.find?_cons_of_pos hh,if_pos hh]
  dsimp only
  rw[if_neg hlast]
  rfl
 ·rw[List.find?_cons_of_neg hh,if_neg hh]
  rfl
def turnF (F:Fr)(j:Nat)(y:UInt8):Fr:={ F with tag:=F.tag.set j y }
theorem turn_right {F:Fr}(h:rightB F=true)(j:Nat)(y:UInt8):rightB (turnF F j y)=true:=by
 unfold rightB at h ⊢
 rw[show coreB (turnF F j y)=coreB F from rfl,show (turnF F j y).tag=F.tag.set j y from rfl,List.length_set]
 exact h
theorem turn_holds {F:Fr}{key:List UInt8}(h:holdsB key F=true){j:Nat}{x y:UInt8}(hx:F.tag[j]?=some x)(hne:y≠x):holdsB key (turnF F j y)=false:=by
 have h1:tagL key F=F.tag:=by
  unfold holdsB at h
  rw[Bool.and_eq_true,decide_eq_true_eq] at h
  exact h.2
 rw[Bool.eq_false_iff]
 intro h2
 unfold holdsB at h2
 rw[Bool.and_eq_true,decide_eq_true_eq] at h2
 have h3:tagL key (turnF F j y)=tagL key F:=tagL_other key F _
 have h4:F.tag=F.tag.set j y:=h1.symm.trans (h3.symm.trans h2.2)
 have h5:=congrArg (λl=>l[j]?) h4
 rw[hx,List.getElem?_set_self (List.getElem?_eq_some_iff.1 hx).1] at h5
 cases h5
 exact hne rfl
end Go.Proofs.YthogohkieiogiaaGreatDoor
namespace Go.Proofs.YthogohkieiogiaaGreatDoor
set_option maxRecDepth 20000
open Go.ChangeShapes Go.WideShapes Go.ChangeAt Go.RowKit
theorem PEAt.plain {w:World}{R:Nat}{s:Ec}{ma:Option Addr}{mc:Nat}(h:PEAt w R s ma mc):Plain w R:=λi x hc=>by
 rw[cell_of_row _ _ i _ _ _ h] at hc
 exact peL_no _ _ _ _ _ hc
def TN (N M:Nat)(W:World)(T:Nat)(s:Rv)(n:Nat):Prop:=∃ F,PM W T (s,n) F/\∀ k,F k->N<=k/\k<M
theorem TBorn.tn {w W:World}{T:Nat}{c:Cf}{me:Int}(h:TBorn w T c me W):TN w.heap.size W.heap.size W T (newR c me) 0:=by
 obtain⟨F,h1,h2,h3⟩:=h
 exact⟨F,h1,λk hk=>⟨h2 k hk,h1.lt hk⟩⟩
theorem TN.below {N M:Nat}{W W':World}{T:Nat}{s:Rv}{n:Nat}(h:TN N M W T s n)(hb:Below W.heap.size W W'):TN N M W' T s n:=by
 obtain⟨F,h1,h2⟩:=h
 exact⟨F,h1.below hb,h2⟩
theorem TN.node {N M:Nat}{w0 W W':World}{T R:Nat}{s:Rv}{n:Nat}{q:Ec}{ma:Option Addr}{mc:Nat}(h:TN N M W T s n)(g:ESolo w0 W R q ma mc)(ha:Apart (λk=>k=R) W W')(hR:R<N):TN N M W' T s n:=by
 obtain⟨F,h1,h2⟩:=h
 exact⟨F,h1.apart ha (λk hk hF=>by have:=(h2 k hF).1;omega) (λk hk=>hk▸g.all.at'.plain),h2⟩
theorem Full.node {w0 W W':World}{R g n:Nat}{key:List UInt8}{q:Ec}{ma:Option Addr}{mc:Nat}(h:Full W g n key)(e:ESolo w0 W R q ma mc)(ha:Apart (λk=>k=R) W W'):Full W' g n key:=
 Full.kp g n key W W' _ h ha (λk hk=>hk▸e.all.at'.plain) (λk cur fr hk hc=>by
  subst hk
  have h1:=e.all.at'
  unfold PEAt at h1
  rw[h1] at hc
  simp at hc)
def TL (w W:World)(T:Nat)(s:Rv)(n g b:Nat):Prop:=∃ F,PM W T (s,n) F/\Below w.heap.size w W/\(∀ k,F k->w.heap.size<=k)/\(¬ F g/\g<W.heap.size)/\¬ F b/\b<W.heap.size
theorem TN.live {N M:Nat}{w W:World}{T:Nat}{s:Rv}{n g b:Nat}(h:TN N M W T s n)(hb:Below w.heap.size w W)(hN:w.heap.size<=N)(hg:g<N)(hM:M<=b)(hl:b<W.heap.size)(hNW:N<=W.heap.size):TL w W T s n g b:=by
 obtain⟨F,h1,h2⟩:=h
 exact⟨F,h1,hb,λk hk=>Nat.le_trans hN (h2 k hk).1,⟨λhF=>by have:=(h2 g hF).1;omega,by omega⟩,λhF=>by have:=(h2 b hF).2;omega,hl⟩
theorem TL.bel {w W:World}{T:Nat}{s:Rv}{n g b:Nat}(h:TL w W T s n g b):Below w.heap.size w W:=by
 obtain⟨F,_,h2,_⟩:=h;exact h2
theorem TL.below {w W W':World}{T:Nat}{s:Rv}{n g b:Nat}(h:TL w W T s n g b)(hb:Below W.heap.size W W'):TL w W' T s n g b:=by
 obtain⟨F,h1,h2,h3,⟨h4,h5⟩,h6,h7⟩:=h
 have:=hb.size
 exact⟨F,h1.below hb,h2.trans (hb.mono h2.size),h3,⟨h4,by omega⟩,h6,by omega⟩
theorem TL.box {w W W':World}{T:Nat}{s:Rv}{n g b c:Nat}(h:TL w W T s n g b)(hb:Below W.heap.size W W')(hc:W.heap.size<=c)(hl:c<W'.heap.size):TL w W' T s n g c:=by
 obtain⟨F,h1,h2,h3,⟨h4,h5⟩,h6,h7⟩:=h
 have:=hb.size
 exact⟨F,h1.below hb,h2.trans (hb.mono h2.size),h3,⟨h4,by omega⟩,λhF=>by have:=h1.lt hF;omega,hl⟩
structure TKeep (W W':World)(g b:Nat):Prop where
 g:W'.heap[g]?=W.heap[g]?
 b:W'.heap[b]?=W.heap[b]?
 sees:∀ {a c l},Sees W a c l->Sees W' a c l
theorem TKeep.full {W W':World}{g b n:Nat}{key:List UInt8}(h:TKeep W W' g b)(hf:Full W g n key):Full W' g n key:=by
 obtain⟨s,h1,h2,h3⟩:=hf
 exact⟨s,h1,h.g.trans h2,λi p hi=>h.sees (h3 i p hi)⟩
theorem TL.act {w W W':World}{T:Nat}{s s':Rv}{n n' g b:Nat}{F:Nat->Prop}(h1:PM W T (s,n) F)(h2:Below w.heap.size w W)(h3:∀ k,F k->w.heap.size<=k)(h4:¬ F g/\g<W.heap.size)(h6:¬ F b/\b<W.heap.size)(hl:Left PM W F T (s',n') W'):TL w W' T s' n' g b/\TKeep W W' g b:=by
 obtain⟨F',g1,g2,g3⟩:=hl
 have hz:=g2.size
 refine⟨⟨F',g1,g2.below h2 h3 h2.size,λk hk=>(g3 k hk).elim (h3 k) λh=>Nat.le_trans h2.size h,⟨λhF=>(g3 g hF).elim h4.1 λh=>by omega,by omega⟩,λhF=>(g3 b hF).elim h6.1 λh=>by omega,by omega⟩,?_⟩
 exact⟨g2.block g h4.2 h4.1,g2.block b h6.2 h6.1,λhs=>h1.sees g2 hs⟩
theorem TL.anchor {w W:World}{T:Nat}{s:Rv}{n g b:Nat}(h:TL w W T s n g b)(hT:TTab w)(hn:n<=80000000)(e t i:Int)(x:Option Addr)(cx:Nat)(k:List UInt8)(hx:Sees W x cx k)(hk:k.length<=140737488355328):
  Calls Tryz.prog 13 #[.pointer (some ⟨T,0,none⟩),.int .i64 e,.int .i64 t,.int .i64 i,.slice x k.length cx] W λev w'=>ev=.returned (.int .i64 (ancE s e t i k))/\TL w w' T (ancV s e t i k) (n+64) g b/\TKeep W w' g b:=by
 obtain⟨F,h1,h2,h3,h4,h6⟩:=h
 exact(tanchor_any W T s n F h1 (hT.below h2) (by omega) e t i x cx k hx hk).mono λ_ _ ⟨he,hl⟩=>⟨he,TL.act h1 h2 h3 h4 h6 hl⟩
theorem TL.offer {w W:World}{T:Nat}{s:Rv}{n g b:Nat}(h:TL w W T s n g b)(hT:TTab w)(hn:n<=80000000)(hlo:s.b.lost<=1000000)(x:Option Addr)(cx:Nat)(l:List UInt8)(hx:Sees W x cx l)(hl:l.length<=140737488351232)(M:Int):
  Calls Tryz.prog 17 #[.pointer (some ⟨T,0,none⟩),.slice x l.length cx,.int .i64 M] W λev w'=>ev=.returned (.int .i64 (offE s l M))/\TL w w' T (offV s l M) (n+65) g b/\TKeep W w' g b:=by
 obtain⟨F,h1,h2,h3,h4,h6⟩:=h
 exact(toffer_any W T s n F h1 (hT.below h2) hn hlo x cx l hx hl M).mono λ_ _ ⟨he,hl⟩=>⟨he,TL.act h1 h2 h3 h4 h6 hl⟩
theorem TL.tell {w W:World}{T:Nat}{s:Rv}{n g b:Nat}(h:TL w W T s n g b)(hT:TTab w)(hn:n<=80000000)(e i:Int)(x:Option Addr)(cx:Nat)(k:List UInt8)(hx:Sees W x cx k)(hk:k.length<=140737488355328):
  Calls Tryz.prog 18 #[.pointer (some ⟨T,0,none⟩),.int .i64 e,.int .i64 i,.slice x k.length cx] W λev w'=>∃ vo,ev=.returned (.tuple #[vo,.int .i64 (telE s e i k)])/\Frs w' vo (telR s e i k).2/\TL w w' T (telR s e i k).1 (n+16448) g b/\TKeep W w' g b:=by
 obtain⟨F,h1,h2,h3,h4,h6⟩:=h
 exact(ttell_any W T s n F h1 (hT.below h2) hn e i x cx k hx hk).mono λ_ _ ⟨vo,he,hf,ho,hl⟩=>⟨vo,he,hf,TL.act h1 h2 h3 h4 h6 hl⟩
theorem turned_seen {w w0:World}{F:Fr}{A:At}{B j:Nat}{y:UInt8}{tb to_:Nat}(hB:B<=tb)(hs:Seen w F A)(ht:TagNew B F A)(e:A.ta=some ⟨tb,to_,none⟩)(hj:j<F.tag.length)(h0:Below B w0 w):Seen (w.setCell ⟨tb,to_+j,none⟩ (.int .u8 (y.toNat:Int))) (turnF F j y) A/\Below B w0 (w.setCell ⟨tb,to_+j,none⟩ (.int .u8 (y.toNat:Int))):=by
 obtain⟨t1,t2,t3⟩:=ht tb to_ e
 have hg:∀ i x,F.tag[i]?=some x->w.cell? ⟨tb,to_+i,none⟩=some (.int .u8 (x.toNat:Int)):=λi x hx=>by
  obtain⟨b,off,e2,hc⟩:=hs.tag.get hx
  rw[e] at e2
  simp only[Option.some.injEq,Addr.mk.injEq,and_true] at e2
  obtain⟨rfl,rfl⟩:=e2
  exact hc
 refine⟨⟨hs.key.set _ (λb off e2 hne hb=>?_),hs.body.set _ (λb off e2 hne hb=>?_),?_⟩,h0.setCell (p:=⟨tb,to_+j,none⟩) hB _⟩
 ·subst hb;exact hne (t2 off e2)
 ·subst hb;exact hne (t3 off e2)
 ·refine⟨by show (F.tag.set j y).length<=_;rw[List.length_set];exact hs.tag.fits,hs.tag.room,hs.tag.bare,λ_=>⟨tb,to_,e,λi x hx=>?_⟩⟩
  have hx':(F.tag.set j y)[i]?=some x:=hx
  by_cases hij:j=i
  ·subst hij
   rw[List.getElem?_set_self hj] at hx'
   cases hx'
   exact World.cell?_setCell_same w _ _ (hg j _ (List.getElem?_eq_getElem hj))
  ·rw[List.getElem?_set_ne hij] at hx'
   rw[World.cell?_setCell_other _ _ _ _ (by simp;first|done|omega)]
   exact hg i x hx'
theorem Row.frame {w:World}{a:Option Addr}{n c:Nat}{os:List (Fr×At)}(h:Row EFr w (.slice a n c) os){j:Nat}{p:Fr×At}(hp:os[j]?=some p):∃ q,a=some ⟨q,0,none⟩/\(Instr.loadAt 41 (.pointer (some ⟨q,j*13,none⟩))).run Tryz.prog w=.ok (.agg (frC p.1 p.2)) w:=by
 obtain⟨_,q,rfl,hc⟩:=h.get hp
 exact⟨q,rfl,run_loadAt_mid w q (j*13) 41 (frL p.1 p.2) _ (λt v hv=>hc t v hv) Tryz.underlying41 rfl (by kernel_rfl)⟩
theorem Frs.one {w:World}{v:Value}{F:Fr}(h:Frs w v [F]):∃ q c A,v=.slice (some ⟨q,0,none⟩) 1 c/\Seen w F A/\∀ V,Below w.heap.size w V->(Instr.loadAt 41 (.pointer (some ⟨q,0,none⟩))).run Tryz.prog V=.ok (.agg (frC F A)) V:=by
 obtain⟨a,c,hv⟩:=h.shape
 obtain⟨os,r1,s1,m1⟩:=h
 subst hv
 obtain⟨⟨G,A⟩,hp⟩:∃ p,os[0]?=some p:=⟨os[0]'(by have:=congrArg List.length m1;simp at this;omega),List.getElem?_eq_getElem _⟩
 have hG:G=F:=by
  have h0:=congrArg (λl=>l[0]?) m1
  simp only[List.getElem?_map,hp] at h0
  simpa using h0
 subst hG
 obtain⟨q,rfl,_⟩:=r1.frame hp
 refine⟨q,c,A,rfl,s1 _ (List.mem_of_getElem? hp),λV hV=>?_⟩
 obtain⟨q2,e2,l2⟩:=(r1.below hV).frame hp
 cases e2
 rw[Nat.zero_mul] at l2
 exact l2
end Go.Proofs.YthogohkieiogiaaGreatDoor
