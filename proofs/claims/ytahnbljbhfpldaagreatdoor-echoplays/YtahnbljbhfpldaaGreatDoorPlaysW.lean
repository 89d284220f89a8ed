/-
  The walk of EchoPlays.
-/
import Derived.Test.YtahnbljbhfpldaaGreatDoorDuoE
namespace Go.Proofs.YtahnbljbhfpldaaGreatDoor
set_option maxRecDepth 20000
set_option maxHeartbeats 25600000
open Go.ChangeShapes Go.WideShapes Go.ChangeAt Go.RowKit
theorem seal_53 (key:List UInt8)(F:Fr):(sealR key F).length<=53:=by
 unfold sealR
 split
 ·rename_i hb
  exact(put_len _ (eseal_right hb)).2.1
 ·simp
theorem esame_self (F:Fr):sameB F F=true:=by unfold sameB;simp
theorem ask_53 (s:Ec)(jj now:Int):(s.askR jj now).length<=53:=by
 unfold Ec.askR
 split
 ·exact seal_53 _ _
 ·simp
theorem rep_53 (s:Ec)(F:Fr)(m e st ix:Int)(key:List UInt8):(s.repR F m e st ix key).length<=53:=by
 unfold Ec.repR
 split
 ·exact seal_53 _ _
 ·simp
theorem open_n (s:Ec)(l:List UInt8):(s.opF l).n<18446744073709551616:=by
 unfold Ec.opF
 split
 ·exact pgetF_n l
 ·decide
theorem pn_loads {w:World}{g:Nat}{x:An}{a:Option Addr}{c:Nat}(h:PnAt w g x a c):(Instr.loadAt 51 (.pointer (some ⟨g,0,none⟩))).run Tryz.prog w=.ok (.agg (anC x a c)) w:=
 loadAt_row w g 51 51 _ (0,0) _ h Tryz.underAe rfl (by rw[anC_size];kernel_rfl)
theorem an_loads {w:World}{g:Nat}{x:An}{a:Option Addr}{c:Nat}(h:AnAt w g x a c):(Instr.loadAt 54 (.pointer (some ⟨g,0,none⟩))).run Tryz.prog w=.ok (.agg (anC x a c)) w:=
 loadAt_row w g 54 54 _ (0,0) _ h Tryz.underAd rfl (by rw[anC_size];kernel_rfl)
theorem an_laid {W:World}{x:An}{a:Option Addr}{c:Nat}(hs:Sees W a c x.key):∃ W',(Instr.storeAt 54 (.pointer (some ⟨W.heap.size,0,none⟩)) (.agg (anC x a c))).run Tryz.prog (W.alloc (.cells (anC An.zero none 0) 54))=.ok () W'/\AnAt W' W.heap.size x a c/\Sees W' a c x.key/\Below W.heap.size W W':=by
 have hb:Below W.heap.size W (W.alloc (.cells (anC An.zero none 0) 54)):=Go.Joins.below_alloc1 _ _
 obtain⟨X,hst,hX,hs',aX⟩:=an_stored2 (AnAt.new W An.zero none 0) x a c (hs.below hb)
 exact⟨X,hst,hX,hs',aX.below hb (λk hk=>by omega) hb.size⟩
theorem plays_walk (c:Cf)(a:Option Addr)(ca:Nat)(own:List UInt8)(i j inc:Int)(a5:Option Addr)(c5:Nat)(kl:List UInt8)(a6:Option Addr)(c6:Nat)(nl:List Int)(w:World)(hTab:FTab w/\KTab w)(ha:Sees w a ca own)(_:ca<=140737488351232)(_wi:(Lit.int .i64 i).wf=true)(_wj:(Lit.int .i64 j).wf=true)(_wn:(Lit.int .i64 inc).wf=true)(h5:Sees w a5 c5 kl)(_:c5<=140737488351232)(h6:Nums .i64 w a6 c6 nl):
  Calls Tryz.prog 3 #[.agg (cfC c),.slice a own.length ca,.int .i64 i,.int .i64 j,.int .i64 inc,.slice a5 kl.length c5,.slice a6 nl.length c6] w λe w'=>e=.returned (.bool true)/\Below w.heap.size w w':=by
 obtain⟨W0,hW0⟩:∃ W0,W0=w.alloc (.cells (cfC c) 23):=⟨_,rfl⟩
 have hb0:Below w.heap.size w W0:=by rw[hW0];exact Go.Joins.below_alloc1 _ _
 have hc0:CfAt W0 w.heap.size c:=by rw[hW0];exact CfAt.new w c
 have H0:Hid (Tabs w/\Sees w a ca own/\Sees w a5 c5 kl/\Nums .i64 w a6 c6 nl/\CfAt W0 w.heap.size c/\Below w.heap.size w W0/\W0=w.alloc (.cells (cfC c) 23)):=⟨hTab,ha,h5,h6,hc0,hb0,hW0⟩
 have HL0:Hid ((Instr.loadAt 23 (.pointer (some ⟨w.heap.size,0,none⟩))).run Tryz.prog W0=.ok (.agg (cfC c)) W0):=hc0.loads
 have HAW:Hid (∀ V,Below w.heap.size w V->Calls Tryz.prog 10 #[] V λe w'=>e=.returned (.bool true)/\Below w.heap.size w w'):=λV hV=>by
  refine(eawake_ok V (H0.out.1.below hV)).mono ?_
  rintro e w' ⟨rfl,hb⟩
  exact⟨rfl,hV.trans (hb.mono hV.size)⟩
 have hkl:kl.length<=9223372036854775807:=by have:=h5.fits;have:=h5.room;unfold maxLen at this;omega
 have hnl:nl.length<=9223372036854775807:=by have:=h6.fits;have:=h6.room;unfold maxLen at this;omega
 obtain⟨ol,hol⟩:∃ ol,ol=own.length:=⟨_,rfl⟩
 have HOL:Hid (ol=own.length):=hol
 rw[<-hol]
 clear ha hTab h5 h6 hW0 hb0 hc0 hol _wi _wj _wn
 go_enter Tryz.func3,Tryz.ntmps3
 go_upto_region 1 with fail
 rw[<-H0.out.2.2.2.2.2.2]
 by_cases hi:ecB c own i inc=true
 rotate_left
 ·replace hi:ecB c own i inc=false:=Bool.eq_false_iff.2 hi
  by_cases hj:ecB c own j inc=true
  ·as_aux_lemma=>
    have HB0:Hid (Below w.heap.size w W0):=H0.out.2.2.2.2.2.1
    have K1:=penew_no W0 c a ca own i inc hi
    rw[<-HOL.out] at K1
    go_wp2_with (first|(refine wpList_gload_run rfl 23 _ rfl _ _ rfl HL0.out ?_)|fail)
    refine K1.mono ?_
    rintro e w1 ⟨rfl,hb1⟩
    have HB1:Hid (Below w.heap.size w w1/\Below W0.heap.size W0 w1):=⟨HB0.out.trans (hb1.mono HB0.out.size),hb1⟩
    have HL1:Hid ((Instr.loadAt 23 (.pointer (some ⟨w.heap.size,0,none⟩))).run Tryz.prog w1=.ok (.agg (cfC c)) w1):=(H0.out.2.2.2.2.1.below HB1.out.2).loads
    clear K1 hb1
    have K2:=denew_no w1 c a ca own i inc hi
    rw[<-HOL.out] at K2
    go_wp2_with (first|(refine wpList_gload_run rfl 23 _ rfl _ _ rfl HL1.out ?_)|fail)
    refine K2.mono ?_
    rintro e w2 ⟨rfl,hb2⟩
    have HB2:Hid (Below w.heap.size w w2/\Below w1.heap.size w1 w2):=⟨HB1.out.1.trans (hb2.mono HB1.out.1.size),hb2⟩
    have HL2:Hid ((Instr.loadAt 23 (.pointer (some ⟨w.heap.size,0,none⟩))).run Tryz.prog w2=.ok (.agg (cfC c)) w2):=(H0.out.2.2.2.2.1.below (HB1.out.2.trans (HB2.out.2.mono HB1.out.2.size))).loads
    clear K2 hb2
    have K3:=ESolo.new w w2 H0.out.1.2.two (H0.out.1.below HB2.out.1) HB2.out.1 c a ca own j inc (H0.out.2.1.below HB2.out.1) hj
    rw[<-HOL.out] at K3
    go_wp2_with (first|(refine wpList_gload_run rfl 23 _ rfl _ _ rfl HL2.out ?_)|fail)
    refine K3.mono ?_
    rintro e w3 ⟨Q,mb,nb,rfl,hX3,hO3,hb3⟩
    have HX3:Hid (ESolo w w3 Q (ecNew c own j inc) mb nb/\w2.heap.size<=Q):=⟨hX3,hO3⟩
    clear hX3 hO3
    have HB3:Hid (Below w.heap.size w w3/\Below w2.heap.size w2 w3):=⟨HB2.out.1.trans (hb3.mono HB2.out.1.size),hb3⟩
    have HL3:Hid ((Instr.loadAt 23 (.pointer (some ⟨w.heap.size,0,none⟩))).run Tryz.prog w3=.ok (.agg (cfC c)) w3):=(H0.out.2.2.2.2.1.below ((HB1.out.2.trans (HB2.out.2.mono HB1.out.2.size)).trans (HB3.out.2.mono (HB1.out.2.trans (HB2.out.2.mono HB1.out.2.size)).size))).loads
    clear K3 hb3
    have K4:=denew_ok w3 c a ca own j inc (H0.out.2.1.below HB3.out.1) hj
    rw[<-HOL.out] at K4
    go_wp2_with (first|(refine wpList_gload_run rfl 23 _ rfl _ _ rfl HL3.out ?_)|fail)
    refine K4.mono ?_
    rintro e w4 ⟨E,H,rfl,hO4,hP4,hX4,hb4⟩
    have HX4:Hid (DEAll w4 E H (ecNew c own j inc) a ca/\w3.heap.size<=E/\w3.heap.size<=H):=⟨hX4,hO4,hP4⟩
    clear hX4 hO4 hP4
    have HB4:Hid (Below w.heap.size w w4/\Below w3.heap.size w3 w4):=⟨HB3.out.1.trans (hb4.mono HB3.out.1.size),hb4⟩
    clear K4 hb4
    have KA:=HAW.out w4 HB4.out.1
    go_wp2_with fail
    refine KA.mono ?_
    rintro e w9 ⟨rfl,hb9⟩
    have HE:Hid (Below w.heap.size w w9):=hb9
    clear KA hb9
    go_wp2
    go_ret
    exact⟨by simp,HE.out⟩
  ·replace hj:ecB c own j inc=false:=Bool.eq_false_iff.2 hj
   as_aux_lemma=>
    have HB0:Hid (Below w.heap.size w W0):=H0.out.2.2.2.2.2.1
    have K1:=penew_no W0 c a ca own i inc hi
    rw[<-HOL.out] at K1
    go_wp2_with (first|(refine wpList_gload_run rfl 23 _ rfl _ _ rfl HL0.out ?_)|fail)
    refine K1.mono ?_
    rintro e w1 ⟨rfl,hb1⟩
    have HB1:Hid (Below w.heap.size w w1/\Below W0.heap.size W0 w1):=⟨HB0.out.trans (hb1.mono HB0.out.size),hb1⟩
    have HL1:Hid ((Instr.loadAt 23 (.pointer (some ⟨w.heap.size,0,none⟩))).run Tryz.prog w1=.ok (.agg (cfC c)) w1):=(H0.out.2.2.2.2.1.below HB1.out.2).loads
    clear K1 hb1
    have K2:=denew_no w1 c a ca own i inc hi
    rw[<-HOL.out] at K2
    go_wp2_with (first|(refine wpList_gload_run rfl 23 _ rfl _ _ rfl HL1.out ?_)|fail)
    refine K2.mono ?_
    rintro e w2 ⟨rfl,hb2⟩
    have HB2:Hid (Below w.heap.size w w2/\Below w1.heap.size w1 w2):=⟨HB1.out.1.trans (hb2.mono HB1.out.1.size),hb2⟩
    have HL2:Hid ((Instr.loadAt 23 (.pointer (some ⟨w.heap.size,0,none⟩))).run Tryz.prog w2=.ok (.agg (cfC c)) w2):=(H0.out.2.2.2.2.1.below (HB1.out.2.trans (HB2.out.2.mono HB1.out.2.size))).loads
    clear K2 hb2
    have K3:=penew_no w2 c a ca own j inc hj
    rw[<-HOL.out] at K3
    go_wp2_with (first|(refine wpList_gload_run rfl 23 _ rfl _ _ rfl HL2.out ?_)|fail)
    refine K3.mono ?_
    rintro e w3 ⟨rfl,hb3⟩
    have HB3:Hid (Below w.heap.size w w3/\Below w2.heap.size w2 w3):=⟨HB2.out.1.trans (hb3.mono HB2.out.1.size),hb3⟩
    have HL3:Hid ((Instr.loadAt 23 (.pointer (some ⟨w.heap.size,0,none⟩))).run Tryz.prog w3=.ok (.agg (cfC c)) w3):=(H0.out.2.2.2.2.1.below ((HB1.out.2.trans (HB2.out.2.mono HB1.out.2.size)).trans (HB3.out.2.mono (HB1.out.2.trans (HB2.out.2.mono HB1.out.2.size)).size))).loads
    clear K3 hb3
    have K4:=denew_no w3 c a ca own j inc hj
    rw[<-HOL.out] at K4
    go_wp2_with (first|(refine wpList_gload_run rfl 23 _ rfl _ _ rfl HL3.out ?_)|fail)
    refine K4.mono ?_
    rintro e w4 ⟨rfl,hb4⟩
    have HB4:Hid (Below w.heap.size w w4/\Below w3.heap.size w3 w4):=⟨HB3.out.1.trans (hb4.mono HB3.out.1.size),hb4⟩
    clear K4 hb4
    have KA:=HAW.out w4 HB4.out.1
    go_wp2_with fail
    refine KA.mono ?_
    rintro e w9 ⟨rfl,hb9⟩
    have HE:Hid (Below w.heap.size w w9):=hb9
    clear KA hb9
    go_wp2
    go_ret
    exact⟨by simp,HE.out⟩
 by_cases hj:ecB c own j inc=true
 rotate_left
 ·replace hj:ecB c own j inc=false:=Bool.eq_false_iff.2 hj
  as_aux_lemma=>
   have HB0:Hid (Below w.heap.size w W0):=H0.out.2.2.2.2.2.1
   have K1:=ESolo.new w W0 H0.out.1.2.two (H0.out.1.below HB0.out) HB0.out c a ca own i inc (H0.out.2.1.below HB0.out) hi
   rw[<-HOL.out] at K1
   go_wp2_with (first|(refine wpList_gload_run rfl 23 _ rfl _ _ rfl HL0.out ?_)|fail)
   refine K1.mono ?_
   rintro e w1 ⟨R,ma,na,rfl,hX1,hO1,hb1⟩
   have HX1:Hid (ESolo w w1 R (ecNew c own i inc) ma na/\W0.heap.size<=R):=⟨hX1,hO1⟩
   clear hX1 hO1
   have HB1:Hid (Below w.heap.size w w1/\Below W0.heap.size W0 w1):=⟨HB0.out.trans (hb1.mono HB0.out.size),hb1⟩
   have HL1:Hid ((Instr.loadAt 23 (.pointer (some ⟨w.heap.size,0,none⟩))).run Tryz.prog w1=.ok (.agg (cfC c)) w1):=(H0.out.2.2.2.2.1.below HB1.out.2).loads
   clear K1 hb1
   have K2:=denew_ok w1 c a ca own i inc (H0.out.2.1.below HB1.out.1) hi
   rw[<-HOL.out] at K2
   go_wp2_with (first|(refine wpList_gload_run rfl 23 _ rfl _ _ rfl HL1.out ?_)|fail)
   refine K2.mono ?_
   rintro e w2 ⟨D,G,rfl,hO2,hP2,hX2,hb2⟩
   have HX2:Hid (DEAll w2 D G (ecNew c own i inc) a ca/\w1.heap.size<=D/\w1.heap.size<=G):=⟨hX2,hO2,hP2⟩
   clear hX2 hO2 hP2
   have HB2:Hid (Below w.heap.size w w2/\Below w1.heap.size w1 w2):=⟨HB1.out.1.trans (hb2.mono HB1.out.1.size),hb2⟩
   have HL2:Hid ((Instr.loadAt 23 (.pointer (some ⟨w.heap.size,0,none⟩))).run Tryz.prog w2=.ok (.agg (cfC c)) w2):=(H0.out.2.2.2.2.1.below (HB1.out.2.trans (HB2.out.2.mono HB1.out.2.size))).loads
   clear K2 hb2
   have K3:=penew_no w2 c a ca own j inc hj
   rw[<-HOL.out] at K3
   go_wp2_with (first|(refine wpList_gload_run rfl 23 _ rfl _ _ rfl HL2.out ?_)|fail)
   refine K3.mono ?_
   rintro e w3 ⟨rfl,hb3⟩
   have HB3:Hid (Below w.heap.size w w3/\Below w2.heap.size w2 w3):=⟨HB2.out.1.trans (hb3.mono HB2.out.1.size),hb3⟩
   have HL3:Hid ((Instr.loadAt 23 (.pointer (some ⟨w.heap.size,0,none⟩))).run Tryz.prog w3=.ok (.agg (cfC c)) w3):=(H0.out.2.2.2.2.1.below ((HB1.out.2.trans (HB2.out.2.mono HB1.out.2.size)).trans (HB3.out.2.mono (HB1.out.2.trans (HB2.out.2.mono HB1.out.2.size)).size))).loads
   clear K3 hb3
   have K4:=denew_no w3 c a ca own j inc hj
   rw[<-HOL.out] at K4
   go_wp2_with (first|(refine wpList_gload_run rfl 23 _ rfl _ _ rfl HL3.out ?_)|fail)
   refine K4.mono ?_
   rintro e w4 ⟨rfl,hb4⟩
   have HB4:Hid (Below w.heap.size w w4/\Below w3.heap.size w3 w4):=⟨HB3.out.1.trans (hb4.mono HB3.out.1.size),hb4⟩
   clear K4 hb4
   have KA:=HAW.out w4 HB4.out.1
   go_wp2_with fail
   refine KA.mono ?_
   rintro e w9 ⟨rfl,hb9⟩
   have HE:Hid (Below w.heap.size w w9):=hb9
   clear KA hb9
   go_wp2
   go_ret
   exact⟨by simp,HE.out⟩
 have HB0:Hid (Below w.heap.size w W0):=H0.out.2.2.2.2.2.1
 have K1:=ESolo.new w W0 H0.out.1.2.two (H0.out.1.below HB0.out) HB0.out c a ca own i inc (H0.out.2.1.below HB0.out) hi
 rw[<-HOL.out] at K1
 go_wp2_with (first|(refine wpList_gload_run rfl 23 _ rfl _ _ rfl HL0.out ?_)|fail)
 refine K1.mono ?_
 rintro e w1 ⟨R,ma,na,rfl,hX1,hO1,hb1⟩
 have HX1:Hid (ESolo w w1 R (ecNew c own i inc) ma na/\W0.heap.size<=R):=⟨hX1,hO1⟩
 clear hX1 hO1
 have HB1:Hid (Below w.heap.size w w1/\Below W0.heap.size W0 w1):=⟨HB0.out.trans (hb1.mono HB0.out.size),hb1⟩
 have HL1:Hid ((Instr.loadAt 23 (.pointer (some ⟨w.heap.size,0,none⟩))).run Tryz.prog w1=.ok (.agg (cfC c)) w1):=(H0.out.2.2.2.2.1.below HB1.out.2).loads
 clear K1 hb1
 have K2:=denew_ok w1 c a ca own i inc (H0.out.2.1.below HB1.out.1) hi
 rw[<-HOL.out] at K2
 go_wp2_with (first|(refine wpList_gload_run rfl 23 _ rfl _ _ rfl HL1.out ?_)|fail)
 refine K2.mono ?_
 rintro e w2 ⟨D,G,rfl,hO2,hP2,hX2,hb2⟩
 have HX2:Hid (DEAll w2 D G (ecNew c own i inc) a ca/\w1.heap.size<=D/\w1.heap.size<=G):=⟨hX2,hO2,hP2⟩
 clear hX2 hO2 hP2
 have HB2:Hid (Below w.heap.size w w2/\Below w1.heap.size w1 w2):=⟨HB1.out.1.trans (hb2.mono HB1.out.1.size),hb2⟩
 have HL2:Hid ((Instr.loadAt 23 (.pointer (some ⟨w.heap.size,0,none⟩))).run Tryz.prog w2=.ok (.agg (cfC c)) w2):=(H0.out.2.2.2.2.1.below (HB1.out.2.trans (HB2.out.2.mono HB1.out.2.size))).loads
 clear K2 hb2
 have K3:=ESolo.new w w2 H0.out.1.2.two (H0.out.1.below HB2.out.1) HB2.out.1 c a ca own j inc (H0.out.2.1.below HB2.out.1) hj
 rw[<-HOL.out] at K3
 go_wp2_with (first|(refine wpList_gload_run rfl 23 _ rfl _ _ rfl HL2.out ?_)|fail)
 refine K3.mono ?_
 rintro e w3 ⟨Q,mb,nb,rfl,hX3,hO3,hb3⟩
 have HX3:Hid (ESolo w w3 Q (ecNew c own j inc) mb nb/\w2.heap.size<=Q):=⟨hX3,hO3⟩
 clear hX3 hO3
 have HB3:Hid (Below w.heap.size w w3/\Below w2.heap.size w2 w3):=⟨HB2.out.1.trans (hb3.mono HB2.out.1.size),hb3⟩
 have HL3:Hid ((Instr.loadAt 23 (.pointer (some ⟨w.heap.size,0,none⟩))).run Tryz.prog w3=.ok (.agg (cfC c)) w3):=(H0.out.2.2.2.2.1.below ((HB1.out.2.trans (HB2.out.2.mono HB1.out.2.size)).trans (HB3.out.2.mono (HB1.out.2.trans (HB2.out.2.mono HB1.out.2.size)).size))).loads
 clear K3 hb3
 have K4:=denew_ok w3 c a ca own j inc (H0.out.2.1.below HB3.out.1) hj
 rw[<-HOL.out] at K4
 go_wp2_with (first|(refine wpList_gload_run rfl 23 _ rfl _ _ rfl HL3.out ?_)|fail)
 refine K4.mono ?_
 rintro e w4 ⟨E,H,rfl,hO4,hP4,hX4,hb4⟩
 have HX4:Hid (DEAll w4 E H (ecNew c own j inc) a ca/\w3.heap.size<=E/\w3.heap.size<=H):=⟨hX4,hO4,hP4⟩
 clear hX4 hO4 hP4
 have HB4:Hid (Below w.heap.size w w4/\Below w3.heap.size w3 w4):=⟨HB3.out.1.trans (hb4.mono HB3.out.1.size),hb4⟩
 clear K4 hb4
 obtain⟨t,ht⟩:∃ t,t=ecNew c own j inc:=⟨_,rfl⟩
 have HD0:Hid (EDuo w w4 R Q D E G H (ecNew c own i inc) (ecNew c own i inc) t ma mb a a na nb ca ca/\(ecNew c own i inc).alone):=by
  have b12:=HB2.out.2
  have b23:=HB3.out.2
  have b34:=HB4.out.2
  have z1:=HB1.out.1.size
  have z2:=HB2.out.1.size
  have z3:=HB3.out.1.size
  have l1:=HX1.out.1.all.at'.lt
  have l2:=HX2.out.1.at'.lt
  have l3:=(Array.getElem?_eq_some_iff.1 HX2.out.1.ws).1
  have o1:=HX3.out.2
  have o2:=HX4.out.2
  have o3:=HX2.out.2
  have y1:=b12.size
  have y2:=b23.size
  have y3:=b34.size
  rw[ht]
  exact⟨⟨((HX1.out.1.below b12).below b23).below b34,HX3.out.1.below b34,(HX2.out.1.below b23).below b34,HX4.out.1,by omega,by omega,by omega,by omega⟩,Ec.alone_new hi⟩
 have HT:Hid (t=ecNew c own j inc):=ht
 clear hi hj ht HL0 HL1 HL2 HL3
 go_wp2
 go_loopw [23,24,25] (λu d kv wr=>∃ (k G:Nat) (s:Ec) (da db:Option Addr) (ua ub:Nat) (up dn:List UInt8),k<=60/\k<=kl.length/\k<=nl.length/\u=.slice da up.length ua/\d=.slice db dn.length ub/\kv=.int .i64 (k:Int)/\Sees wr da ua up/\Sees wr db ub dn/\up.length<=53/\dn.length<=53/\EDuo w wr R Q D E G H s s t ma mb a a na nb ca ca/\s.alone) (λ_ _ kv _=>60-(intOf kv).toNat)
 case atStart=>exact⟨0,G,_,none,none,0,0,[],[],by omega,Nat.zero_le _,Nat.zero_le _,rfl,rfl,rfl,Sees.nil' _,Sees.nil' _,by simp,by simp,HD0.out⟩
 case round=>
  obtain⟨k,G,s,da,db,ua,ub,up,dn,hk,hkk,hkn,rfl,rfl,rfl,hu,hd,hul,hdl,hD,hal⟩:=hrel
  generalize wr=wo at *
  have g0:(0:Int)<=(k:Int):=Int.natCast_nonneg _
  obtain⟨upl,hupl⟩:∃ upl,upl=up.length:=⟨_,rfl⟩
  obtain⟨dnl,hdnl⟩:∃ dnl,dnl=dn.length:=⟨_,rfl⟩
  rw[<-hupl,<-hdnl]
  have H1:Hid (EDuo w wo R Q D E G H s s t ma mb a a na nb ca ca/\s.alone/\Sees wo da ua up/\Sees wo db ub dn/\up.length<=53/\dn.length<=53/\upl=up.length/\dnl=dn.length):=⟨hD,hal,hu,hd,hul,hdl,hupl,hdnl⟩
  clear hu hd hul hdl hD hal hupl hdnl HD0
  by_cases hall:k<kl.length/\k<nl.length/\k<60
  rotate_left
  ·have hex:(decide ((k:Int)<(kl.length:Int))=false/\¬ k<kl.length)\/(decide ((k:Int)<(kl.length:Int))=true/\k<kl.length/\decide ((k:Int)<(nl.length:Int))=false/\¬ k<nl.length)\/(decide ((k:Int)<(kl.length:Int))=true/\k<kl.length/\decide ((k:Int)<(nl.length:Int))=true/\k<nl.length/\decide ((k:Int)<60)=false/\¬ k<60):=by
    by_cases hc:k<kl.length
    ·by_cases hc2:k<nl.length
     ·exact .inr (.inr ⟨decide_eq_true (by omega),hc,decide_eq_true (by omega),hc2,decide_eq_false (by omega),by omega⟩)
     ·exact .inr (.inl ⟨decide_eq_true (by omega),hc,decide_eq_false (by omega),hc2⟩)
    ·exact .inl ⟨decide_eq_false (by omega),hc⟩
   have KA:=HAW.out wo H1.out.1.a.bel
   clear hall
   rcases hex with ⟨t1,u1⟩|⟨t1,u1,t2,u2⟩|⟨t1,u1,t2,u2,t3,u3⟩
   all_goals (
    go_wp2_with fail
    refine KA.mono ?_
    rintro e w9 ⟨rfl,hb9⟩
    have HE:Hid (Below w.heap.size w w9):=hb9
    clear KA hb9
    go_wp2
    go_ret
    exact⟨by simp,HE.out⟩)
  obtain⟨k1,k2,k3⟩:=hall
  obtain⟨x,hx⟩:∃ x,kl[k]?=some x:=⟨kl[k],by simp[k1]⟩
  obtain⟨T,hT⟩:∃ T,nl[k]?=some T:=⟨nl[k],by simp[k2]⟩
  obtain⟨pb,po,rfl,cx⟩:=H0.out.2.2.1.get hx
  obtain⟨qb,qo,rfl,cT⟩:=H0.out.2.2.2.1.get hT
  have cx2:wo.cell? ⟨pb,po+k,none⟩=some (.int .u8 (x.toNat:Int)):=by rw[H1.out.1.a.bel.cell (p:=⟨pb,po+k,none⟩) (World.block_lt_of_cell? w _ cx)];exact cx
  have cT2:wo.cell? ⟨qb,qo+k,none⟩=some (.int .i64 T):=by rw[H1.out.1.a.bel.cell (p:=⟨qb,qo+k,none⟩) (World.block_lt_of_cell? w _ cT)];exact cT
  obtain⟨X,hX⟩:∃ X:Int,X=(x.toNat:Int):=⟨_,rfl⟩
  rw[<-hX] at cx2
  have t1:decide ((k:Int)<(kl.length:Int))=true:=by simp;omega
  have t2:decide ((k:Int)<(nl.length:Int))=true:=by simp;omega
  have t3:decide ((k:Int)<60)=true:=by simp;omega
  have i1:(k:Int)<(kl.length:Int):=by omega
  have i2:(k:Int)<(nl.length:Int):=by omega
  have hX0:0<=X:=by omega
  have hm5:X.tmod 5=X%5:=Int.tmod_eq_emod_of_nonneg hX0
  have hcases:X%5=0\/X%5=1\/X%5=2\/X%5=3\/X%5=4:=by omega
  have HSE:Hid (Sees w a ca own/\k+1<=kl.length/\k+1<=nl.length/\k<60):=⟨H0.out.2.1,k1,k2,k3⟩
  clear hx hT cx cT hX hX0
  rcases hcases with hm|hm|hm|hm|hm
  ·as_aux_lemma=>
    have hr5:X.tmod 5=0:=hm5.trans hm
    clear hm5 hm
    obtain⟨l,hl⟩:∃ l,l=s.askR j T:=⟨_,rfl⟩
    obtain⟨EE,hEE⟩:∃ EE,EE=s.askE j T:=⟨_,rfl⟩
    obtain⟨s',hs'⟩:∃ s',s'=s.askV j T:=⟨_,rfl⟩
    have K1:=H1.out.1.a.ask j T
    rw[<-hl,<-hEE,<-hs'] at K1
    have HS':Hid (s.askR j T=l/\s.askE j T=EE/\s.askV j T=s'/\s'.alone/\l.length<=53):=⟨hl.symm,hEE.symm,hs'.symm,by rw[hs'];exact Ec.alone_ask H1.out.2.1 H1.out.1.a.ok j T,by rw[hl];exact ask_53 _ _ _⟩
    clear hl hEE hs'
    go_wp2_with fail
    refine K1.mono ?_
    rintro e w5 ⟨d1,e1,rfl,hs1,hA1,ha1⟩
    have H5:Hid (EDuo w w5 R Q D E G H s' s t ma mb a a na nb ca ca/\Sees w5 d1 e1 l/\Sees w5 da ua up/\Sees w5 db ub dn):=by
     have hk:=EKept.node H1.out.1.a.all.at' ha1
     exact⟨H1.out.1.actA hA1 ha1,hs1,hk.sees H1.out.2.2.1,hk.sees H1.out.2.2.2.1⟩
    have K2:=deask_any w5 D G s a ca H5.out.1.u H1.out.1.a.ok j T
    rw[HS'.out.1,HS'.out.2.1,HS'.out.2.2.1] at K2
    clear K1 hs1 hA1 ha1 cx2 cT2
    go_wp2_with fail
    refine K2.mono ?_
    rintro e w6 ⟨d2,e2,rfl,hs2,hU2⟩
    have hk2:=EKept.doc H5.out.1.u hU2.apart
    have H6:Hid (EDuo w w6 R Q D E G H s' s' t ma mb a a na nb ca ca/\Sees w6 d2 e2 l/\Sees w6 da ua up/\Sees w6 db ub dn):=⟨H5.out.1.actU hU2.all (.inl rfl) hU2.apart,hs2,hk2.sees H5.out.2.2.1,hk2.sees H5.out.2.2.2⟩
    have v1:=(hk2.sees H5.out.2.1).convert (P:=Tryz.prog) 24 5 9 (by kernel_rfl) (by kernel_rfl) (by kernel_rfl)
    have v2:=hs2.convert (P:=Tryz.prog) 24 5 9 (by kernel_rfl) (by kernel_rfl) (by kernel_rfl)
    obtain⟨ll,hll⟩:∃ ll,ll=l.length:=⟨_,rfl⟩
    have HLL:Hid (ll=l.length):=hll
    rw[<-hll] at v1 v2 ⊢
    clear K2 hs2 hU2 hk2 hll
    by_cases he0:EE=0
    ·have he:(EE==0)=true:=by simp[he0]
     clear he0
     have HV:Hid (EDuo w w6 R Q D E G H s' s' t ma mb a a na nb ca ca/\s'.alone/\Sees w6 d2 e2 l/\Sees w6 db ub dn/\l.length<=53/\dn.length<=53):=⟨H6.out.1,HS'.out.2.2.2.1,H6.out.2.1,H6.out.2.2.2,HS'.out.2.2.2.2,H1.out.2.2.2.2.2.1⟩
     obtain⟨n,hn⟩:∃ n,n=s'.ws.length:=⟨_,rfl⟩
     have HNN:Hid (n=s'.ws.length):=hn
     have n8:n<=8:=by
      have h1:=HV.out.1.a.ok.num
      have h2:=(right_of HV.out.1.a.ok.cfg).n1
      omega
     clear hn
     go_wp2
     go_loopw [47] (λmv wr=>∃ (m:Nat),m<=n/\mv=.int .i64 (m:Int)/\Below w6.heap.size w6 wr) (λmv _=>n-(intOf mv).toNat)
     case atStart=>exact⟨0,Nat.zero_le _,rfl,Below.refl _ _⟩
     case round=>
      obtain⟨m,hmn,rfl,hB⟩:=hrel
      generalize wr=wi at *
      have g1:(0:Int)<=(m:Int):=Int.natCast_nonneg _
      have hDi:=HV.out.1.below hB
      have c14:wi.cell? ⟨D,14,none⟩=some (.slice (some ⟨G,0,none⟩) n n):=by rw[HNN.out];exact hDi.u.at'.cell 14 rfl
      have HBi:Hid (Below w6.heap.size w6 wi/\EDuo w wi R Q D E G H s' s' t ma mb a a na nb ca ca):=⟨hB,hDi⟩
      clear hB hDi
      by_cases hmk:m<n
      ·obtain⟨p,hp⟩:∃ p,s'.ws[m]?=some p:=⟨s'.ws[m]'(by rw[<-HNN.out];exact hmk),by simp⟩
       have cm:wi.cell? ⟨G,m*3,none⟩=some (.bool p.isSome):=by
        have:=HBi.out.2.u.ws.cell hp 0 (u:=.bool p.isSome) (by rcases p with _|⟨q1,q2⟩<;>rfl)
        exact this
       have KQ:=(HBi.out.2.below (Below.refl _ _).drew).a.asked (m:Int)
       rw[Ec.asB_at HV.out.2.1 HV.out.1.a.ok hp] at KQ
       obtain⟨B,hBB⟩:∃ B,B=p.isSome:=⟨_,rfl⟩
       rw[<-hBB] at KQ cm
       have q1:decide ((m:Int)<(n:Int))=true:=by simp;omega
       have j1:(m:Int)<(n:Int):=by omega
       have hS0:wi.drew.cell? ⟨D,14,none⟩=some (.slice (some ⟨G,0,none⟩) n n)/\wi.drew.cell? ⟨G,m*3,none⟩=some (.bool B):=⟨c14,cm⟩
       clear hp hBB
       go_upto_region 45 with fail
       refine wp_region_noPanic ?_
       refine wp_region_held (S:=λU=>U.cell? ⟨D,14,none⟩=some (.slice (some ⟨G,0,none⟩) n n)/\U.cell? ⟨G,m*3,none⟩=some (.bool B)) (by kernel_rfl) ?_
       have hS:=hS0
       refine tk 0 hS ?_
       refine tk 1 hS ?_
       refine tk 3 hS ?_
       refine tk 4 hS ?_
       refine tk 5 hS ?_
       refine tk 6 hS ?_
       refine tk 7 hS ?_
       refine tk 8 hS ?_
       refine tk 9 hS ?_
       refine tk 10 (v:=Value.bool B) (hv:=by intro w hSw;(try dsimp only at hSw);go_split_ands;go_simp) hS ?_
       refine any_one 2 rfl (by kernel_rfl) (by rfl) (λK hK=>?_)
       clear hS
       go_simp
       refine KQ.mono ?_
       rintro ev V1 ⟨rfl,hV1⟩
       rw[hV1]
       clear hV1 V1 KQ
       refine hK.out _ _ (hS0) (λhS=>?_)
       clear hK
       (try simp only[Act.put,sT])
       refine tk 11 (v:=Value.bool false) (hv:=by intro w hSw;(try dsimp only at hSw);go_split_ands;go_simp) hS ?_
       refine wpAnyH_done (by kernel_rfl) ?_ _
       refine NoPanic.normal ?_
       obtain⟨VX,hVX⟩:∃ VX,VX=wi.drew:=⟨_,rfl⟩
       have hbX:Below wi.heap.size wi VX:=by rw[hVX];exact(Below.refl _ _).drew
       rw[<-hVX]
       have HBX:Hid (Below w6.heap.size w6 VX):=HBi.out.1.trans (hbX.mono HBi.out.1.size)
       clear hS hS0 c14 cm hVX hbX
       go_wp2
       refine⟨⟨m+1,by omega,rfl,HBX.out⟩,?_⟩
       simp[intOf];omega
      ·have q1:decide ((m:Int)<(n:Int))=false:=by simp;omega
       have HF:Hid (EDuo w wi R Q D E G H s' s' t ma mb a a na nb ca ca/\s'.alone/\Sees wi d2 e2 l/\Sees wi db ub dn/\l.length<=53/\dn.length<=53):=⟨HBi.out.2,HV.out.2.1,HV.out.2.2.1.below HBi.out.1,HV.out.2.2.2.1.below HBi.out.1,HV.out.2.2.2.2.1,HV.out.2.2.2.2.2⟩
       go_wp2
       refine⟨⟨k+1,G,s',d2,db,e2,ub,l,dn,by have:=HSE.out;omega,HSE.out.2.1,HSE.out.2.2.1,congrArg (λz=>Value.slice d2 z e2) HLL.out,congrArg (λz=>Value.slice db z ub) H1.out.2.2.2.2.2.2.2,rfl,HF.out.2.2.1,HF.out.2.2.2.1,HF.out.2.2.2.2.1,HF.out.2.2.2.2.2,HF.out.1,HF.out.2.1⟩,?_⟩
       simp[intOf];omega
    ·have he:(EE==0)=false:=by simp[he0]
     clear he0
     have HV:Hid (EDuo w w6 R Q D E G H s' s' t ma mb a a na nb ca ca/\s'.alone/\Sees w6 da ua up/\Sees w6 db ub dn/\up.length<=53/\dn.length<=53):=⟨H6.out.1,HS'.out.2.2.2.1,H6.out.2.2.1,H6.out.2.2.2,H1.out.2.2.2.2.1,H1.out.2.2.2.2.2.1⟩
     obtain⟨n,hn⟩:∃ n,n=s'.ws.length:=⟨_,rfl⟩
     have HNN:Hid (n=s'.ws.length):=hn
     have n8:n<=8:=by
      have h1:=HV.out.1.a.ok.num
      have h2:=(right_of HV.out.1.a.ok.cfg).n1
      omega
     clear hn
     go_wp2
     go_loopw [47] (λmv wr=>∃ (m:Nat),m<=n/\mv=.int .i64 (m:Int)/\Below w6.heap.size w6 wr) (λmv _=>n-(intOf mv).toNat)
     case atStart=>exact⟨0,Nat.zero_le _,rfl,Below.refl _ _⟩
     case round=>
      obtain⟨m,hmn,rfl,hB⟩:=hrel
      generalize wr=wi at *
      have g1:(0:Int)<=(m:Int):=Int.natCast_nonneg _
      have hDi:=HV.out.1.below hB
      have c14:wi.cell? ⟨D,14,none⟩=some (.slice (some ⟨G,0,none⟩) n n):=by rw[HNN.out];exact hDi.u.at'.cell 14 rfl
      have HBi:Hid (Below w6.heap.size w6 wi/\EDuo w wi R Q D E G H s' s' t ma mb a a na nb ca ca):=⟨hB,hDi⟩
      clear hB hDi
      by_cases hmk:m<n
      ·obtain⟨p,hp⟩:∃ p,s'.ws[m]?=some p:=⟨s'.ws[m]'(by rw[<-HNN.out];exact hmk),by simp⟩
       have cm:wi.cell? ⟨G,m*3,none⟩=some (.bool p.isSome):=by
        have:=HBi.out.2.u.ws.cell hp 0 (u:=.bool p.isSome) (by rcases p with _|⟨q1,q2⟩<;>rfl)
        exact this
       have KQ:=(HBi.out.2.below (Below.refl _ _).drew).a.asked (m:Int)
       rw[Ec.asB_at HV.out.2.1 HV.out.1.a.ok hp] at KQ
       obtain⟨B,hBB⟩:∃ B,B=p.isSome:=⟨_,rfl⟩
       rw[<-hBB] at KQ cm
       have q1:decide ((m:Int)<(n:Int))=true:=by simp;omega
       have j1:(m:Int)<(n:Int):=by omega
       have hS0:wi.drew.cell? ⟨D,14,none⟩=some (.slice (some ⟨G,0,none⟩) n n)/\wi.drew.cell? ⟨G,m*3,none⟩=some (.bool B):=⟨c14,cm⟩
       clear hp hBB
       go_upto_region 45 with fail
       refine wp_region_noPanic ?_
       refine wp_region_held (S:=λU=>U.cell? ⟨D,14,none⟩=some (.slice (some ⟨G,0,none⟩) n n)/\U.cell? ⟨G,m*3,none⟩=some (.bool B)) (by kernel_rfl) ?_
       have hS:=hS0
       refine tk 0 hS ?_
       refine tk 1 hS ?_
       refine tk 3 hS ?_
       refine tk 4 hS ?_
       refine tk 5 hS ?_
       refine tk 6 hS ?_
       refine tk 7 hS ?_
       refine tk 8 hS ?_
       refine tk 9 hS ?_
       refine tk 10 (v:=Value.bool B) (hv:=by intro w hSw;(try dsimp only at hSw);go_split_ands;go_simp) hS ?_
       refine any_one 2 rfl (by kernel_rfl) (by rfl) (λK hK=>?_)
       clear hS
       go_simp
       refine KQ.mono ?_
       rintro ev V1 ⟨rfl,hV1⟩
       rw[hV1]
       clear hV1 V1 KQ
       refine hK.out _ _ (hS0) (λhS=>?_)
       clear hK
       (try simp only[Act.put,sT])
       refine tk 11 (v:=Value.bool false) (hv:=by intro w hSw;(try dsimp only at hSw);go_split_ands;go_simp) hS ?_
       refine wpAnyH_done (by kernel_rfl) ?_ _
       refine NoPanic.normal ?_
       obtain⟨VX,hVX⟩:∃ VX,VX=wi.drew:=⟨_,rfl⟩
       have hbX:Below wi.heap.size wi VX:=by rw[hVX];exact(Below.refl _ _).drew
       rw[<-hVX]
       have HBX:Hid (Below w6.heap.size w6 VX):=HBi.out.1.trans (hbX.mono HBi.out.1.size)
       clear hS hS0 c14 cm hVX hbX
       go_wp2
       refine⟨⟨m+1,by omega,rfl,HBX.out⟩,?_⟩
       simp[intOf];omega
      ·have q1:decide ((m:Int)<(n:Int))=false:=by simp;omega
       have HF:Hid (EDuo w wi R Q D E G H s' s' t ma mb a a na nb ca ca/\s'.alone/\Sees wi da ua up/\Sees wi db ub dn/\up.length<=53/\dn.length<=53):=⟨HBi.out.2,HV.out.2.1,HV.out.2.2.1.below HBi.out.1,HV.out.2.2.2.1.below HBi.out.1,HV.out.2.2.2.2.1,HV.out.2.2.2.2.2⟩
       go_wp2
       refine⟨⟨k+1,G,s',da,db,ua,ub,up,dn,by have:=HSE.out;omega,HSE.out.2.1,HSE.out.2.2.1,congrArg (λz=>Value.slice da z ua) H1.out.2.2.2.2.2.2.1,congrArg (λz=>Value.slice db z ub) H1.out.2.2.2.2.2.2.2,rfl,HF.out.2.2.1,HF.out.2.2.2.1,HF.out.2.2.2.2.1,HF.out.2.2.2.2.2,HF.out.1,HF.out.2.1⟩,?_⟩
       simp[intOf];omega
  ·as_aux_lemma=>
    have hr5:X.tmod 5=1:=hm5.trans hm
    clear hm5 hm
    obtain⟨F,hF⟩:∃ F,F=t.opF up:=⟨_,rfl⟩
    obtain⟨E1,hE1⟩:∃ E1,E1=t.opE up:=⟨_,rfl⟩
    have HF:Hid (t.opF up=F/\t.opE up=E1/\F.n<18446744073709551616):=⟨hF.symm,hE1.symm,by rw[hF];exact open_n _ _⟩
    have K1:=H1.out.1.b.opened da ua up H1.out.2.2.1 (by have:=H1.out.2.2.2.2.1;omega)
    rw[HF.out.1,HF.out.2.1,<-H1.out.2.2.2.2.2.2.1] at K1
    clear hF hE1
    go_wp2_with fail
    refine K1.mono ?_
    rintro e w5 ⟨Ap,rfl,hsp,hb5⟩
    obtain⟨W5,hst5,hP5,hb55⟩:=fbox_laid hsp
    have hb5W:Below wo.heap.size wo W5:=hb5.trans (hb55.mono hb5.size)
    have HST5:Hid ((Instr.storeAt 40 (.pointer (some ⟨w5.heap.size,0,none⟩)) (.agg (frC F Ap))).run Tryz.prog (w5.alloc (.cells (frC Fr.zero At.zero) 40))=.ok () W5):=hst5
    have H5:Hid (EDuo w W5 R Q D E G H s s t ma mb a a na nb ca ca/\FBox W5 w5.heap.size F Ap/\Sees W5 da ua up/\Sees W5 db ub dn):=⟨H1.out.1.below hb5W,hP5,H1.out.2.2.1.below hb5W,H1.out.2.2.2.1.below hb5W⟩
    have K2:=deopen_any W5 E H t a ca H5.out.1.v da ua up H5.out.2.2.1 (by have:=H1.out.2.2.2.2.1;omega)
    rw[HF.out.1,HF.out.2.1,<-H1.out.2.2.2.2.2.2.1] at K2
    clear K1 hsp hst5 hP5 hb5 hb55 hb5W cx2 cT2
    go_wp2_with (first|(refine wpList_store_run rfl 40 _ _ rfl _ _ rfl rfl HST5.out ?_)|fail)
    refine K2.mono ?_
    rintro e w6 ⟨Aq,rfl,hsq,hb6⟩
    obtain⟨W6,hst6,hQ6,hb66⟩:=fbox_laid hsq
    have hb6W:Below W5.heap.size W5 W6:=hb6.trans (hb66.mono hb6.size)
    have HST6:Hid ((Instr.storeAt 40 (.pointer (some ⟨w6.heap.size,0,none⟩)) (.agg (frC F Aq))).run Tryz.prog (w6.alloc (.cells (frC Fr.zero At.zero) 40))=.ok () W6):=hst6
    have H6:Hid (EDuo w W6 R Q D E G H s s t ma mb a a na nb ca ca/\FBox W6 w5.heap.size F Ap/\FBox W6 w6.heap.size F Aq/\Sees W6 da ua up/\Sees W6 db ub dn):=⟨H5.out.1.below hb6W,H5.out.2.1.below hb6W,hQ6,H5.out.2.2.1.below hb6W,H5.out.2.2.2.below hb6W⟩
    have HL6:Hid ((Instr.loadAt 40 (.pointer (some ⟨w5.heap.size,0,none⟩))).run Tryz.prog W6=.ok (.agg (frC F Ap)) W6):=H6.out.2.1.at'.loads
    clear K2 hsq hst6 hQ6 hb6 hb66 hb6W
    obtain⟨l,hl⟩:∃ l,l=t.repR F T 1 2 3 own:=⟨_,rfl⟩
    obtain⟨E2,hE2⟩:∃ E2,E2=t.repE F T 1 2 3 own:=⟨_,rfl⟩
    have HR:Hid (t.repR F T 1 2 3 own=l/\t.repE F T 1 2 3 own=E2/\l.length<=53):=⟨hl.symm,hE2.symm,by rw[hl];exact rep_53 _ _ _ _ _ _ _⟩
    have K3:=H6.out.1.b.reply F Ap H6.out.2.1.seen HF.out.2.2 T 1 2 3 a ca own (H0.out.2.1.below H6.out.1.a.bel)
    rw[HR.out.1,HR.out.2.1,<-HOL.out] at K3
    clear hl hE2
    go_wp2_with (first|(refine wpList_store_run rfl 40 _ _ rfl _ _ rfl rfl HST6.out ?_)|(refine wpList_gload_run rfl 40 _ rfl _ _ rfl HL6.out ?_)|fail)
    refine K3.mono ?_
    rintro e w7 ⟨d3,e3,rfl,hs3,hb7⟩
    have H7:Hid (EDuo w w7 R Q D E G H s s t ma mb a a na nb ca ca/\FBox w7 w5.heap.size F Ap/\FBox w7 w6.heap.size F Aq/\Sees w7 da ua up/\Sees w7 db ub dn/\Sees w7 d3 e3 l):=⟨H6.out.1.below hb7,H6.out.2.1.below hb7,H6.out.2.2.1.below hb7,H6.out.2.2.2.1.below hb7,H6.out.2.2.2.2.below hb7,hs3⟩
    have HL7:Hid ((Instr.loadAt 40 (.pointer (some ⟨w6.heap.size,0,none⟩))).run Tryz.prog w7=.ok (.agg (frC F Aq)) w7):=H7.out.2.2.1.at'.loads
    have K4:=dereply_any w7 E H t a ca H7.out.1.v F Aq H7.out.2.2.1.seen HF.out.2.2 T 1 2 3 a ca own (H0.out.2.1.below H7.out.1.a.bel)
    rw[HR.out.1,HR.out.2.1,<-HOL.out] at K4
    clear K3 hs3 hb7 HL6 HST6
    go_wp2_with (first|(refine wpList_gload_run rfl 40 _ rfl _ _ rfl HL7.out ?_)|fail)
    refine K4.mono ?_
    rintro e w8 ⟨d4,e4,rfl,hs4,hb8⟩
    have H8:Hid (EDuo w w8 R Q D E G H s s t ma mb a a na nb ca ca/\FBox w8 w5.heap.size F Ap/\FBox w8 w6.heap.size F Aq/\Sees w8 da ua up/\Sees w8 db ub dn/\Sees w8 d3 e3 l/\Sees w8 d4 e4 l):=⟨H7.out.1.below hb8,H7.out.2.1.below hb8,H7.out.2.2.1.below hb8,H7.out.2.2.2.1.below hb8,H7.out.2.2.2.2.1.below hb8,H7.out.2.2.2.2.2.below hb8,hs4⟩
    have HL8:Hid ((Instr.loadAt 40 (.pointer (some ⟨w5.heap.size,0,none⟩))).run Tryz.prog w8=.ok (.agg (frC F Ap)) w8):=H8.out.2.1.at'.loads
    have HL9:Hid ((Instr.loadAt 40 (.pointer (some ⟨w6.heap.size,0,none⟩))).run Tryz.prog w8=.ok (.agg (frC F Aq)) w8):=H8.out.2.2.1.at'.loads
    have K5:=rsame_any w8 F Ap F Aq H8.out.2.1.seen H8.out.2.2.1.seen true (esame_self F)
    clear K4 hs4 hb8 HL7
    go_wp2_with (first|(refine wpList_gload_run rfl 40 _ rfl _ _ rfl HL8.out ?_)|(refine wpList_gload_run rfl 40 _ rfl _ _ rfl HL9.out ?_)|fail)
    refine K5.mono ?_
    rintro e w9 ⟨rfl,hb9⟩
    have H9:Hid (EDuo w w9 R Q D E G H s s t ma mb a a na nb ca ca/\Sees w9 da ua up/\Sees w9 db ub dn/\Sees w9 d4 e4 l):=⟨H8.out.1.below hb9,H8.out.2.2.2.1.below hb9,H8.out.2.2.2.2.1.below hb9,H8.out.2.2.2.2.2.2.below hb9⟩
    have v1:=(H8.out.2.2.2.2.2.1.below hb9).convert (P:=Tryz.prog) 24 5 9 (by kernel_rfl) (by kernel_rfl) (by kernel_rfl)
    have v2:=H9.out.2.2.2.convert (P:=Tryz.prog) 24 5 9 (by kernel_rfl) (by kernel_rfl) (by kernel_rfl)
    obtain⟨ll,hll⟩:∃ ll,ll=l.length:=⟨_,rfl⟩
    have HLL:Hid (ll=l.length):=hll
    rw[<-hll] at v1 v2 ⊢
    clear K5 hb9 hll HL8 HL9
    by_cases he0:E2=0
    ·have he:(E2==0)=true:=by simp[he0]
     clear he0
     have HV:Hid (EDuo w w9 R Q D E G H s s t ma mb a a na nb ca ca/\s.alone/\Sees w9 da ua up/\Sees w9 d4 e4 l/\up.length<=53/\l.length<=53):=⟨H9.out.1,H1.out.2.1,H9.out.2.1,H9.out.2.2.2,H1.out.2.2.2.2.1,HR.out.2.2⟩
     obtain⟨n,hn⟩:∃ n,n=s.ws.length:=⟨_,rfl⟩
     have HNN:Hid (n=s.ws.length):=hn
     have n8:n<=8:=by
      have h1:=HV.out.1.a.ok.num
      have h2:=(right_of HV.out.1.a.ok.cfg).n1
      omega
     clear hn
     go_wp2
     go_loopw [47] (λmv wr=>∃ (m:Nat),m<=n/\mv=.int .i64 (m:Int)/\Below w9.heap.size w9 wr) (λmv _=>n-(intOf mv).toNat)
     case atStart=>exact⟨0,Nat.zero_le _,rfl,Below.refl _ _⟩
     case round=>
      obtain⟨m,hmn,rfl,hB⟩:=hrel
      generalize wr=wi at *
      have g1:(0:Int)<=(m:Int):=Int.natCast_nonneg _
      have hDi:=HV.out.1.below hB
      have c14:wi.cell? ⟨D,14,none⟩=some (.slice (some ⟨G,0,none⟩) n n):=by rw[HNN.out];exact hDi.u.at'.cell 14 rfl
      have HBi:Hid (Below w9.heap.size w9 wi/\EDuo w wi R Q D E G H s s t ma mb a a na nb ca ca):=⟨hB,hDi⟩
      clear hB hDi
      by_cases hmk:m<n
      ·obtain⟨p,hp⟩:∃ p,s.ws[m]?=some p:=⟨s.ws[m]'(by rw[<-HNN.out];exact hmk),by simp⟩
       have cm:wi.cell? ⟨G,m*3,none⟩=some (.bool p.isSome):=by
        have:=HBi.out.2.u.ws.cell hp 0 (u:=.bool p.isSome) (by rcases p with _|⟨q1,q2⟩<;>rfl)
        exact this
       have KQ:=(HBi.out.2.below (Below.refl _ _).drew).a.asked (m:Int)
       rw[Ec.asB_at HV.out.2.1 HV.out.1.a.ok hp] at KQ
       obtain⟨B,hBB⟩:∃ B,B=p.isSome:=⟨_,rfl⟩
       rw[<-hBB] at KQ cm
       have q1:decide ((m:Int)<(n:Int))=true:=by simp;omega
       have j1:(m:Int)<(n:Int):=by omega
       have hS0:wi.drew.cell? ⟨D,14,none⟩=some (.slice (some ⟨G,0,none⟩) n n)/\wi.drew.cell? ⟨G,m*3,none⟩=some (.bool B):=⟨c14,cm⟩
       clear hp hBB
       go_upto_region 45 with fail
       refine wp_region_noPanic ?_
       refine wp_region_held (S:=λU=>U.cell? ⟨D,14,none⟩=some (.slice (some ⟨G,0,none⟩) n n)/\U.cell? ⟨G,m*3,none⟩=some (.bool B)) (by kernel_rfl) ?_
       have hS:=hS0
       refine tk 0 hS ?_
       refine tk 1 hS ?_
       refine tk 3 hS ?_
       refine tk 4 hS ?_
       refine tk 5 hS ?_
       refine tk 6 hS ?_
       refine tk 7 hS ?_
       refine tk 8 hS ?_
       refine tk 9 hS ?_
       refine tk 10 (v:=Value.bool B) (hv:=by intro w hSw;(try dsimp only at hSw);go_split_ands;go_simp) hS ?_
       refine any_one 2 rfl (by kernel_rfl) (by rfl) (λK hK=>?_)
       clear hS
       go_simp
       refine KQ.mono ?_
       rintro ev V1 ⟨rfl,hV1⟩
       rw[hV1]
       clear hV1 V1 KQ
       refine hK.out _ _ (hS0) (λhS=>?_)
       clear hK
       (try simp only[Act.put,sT])
       refine tk 11 (v:=Value.bool false) (hv:=by intro w hSw;(try dsimp only at hSw);go_split_ands;go_simp) hS ?_
       refine wpAnyH_done (by kernel_rfl) ?_ _
       refine NoPanic.normal ?_
       obtain⟨VX,hVX⟩:∃ VX,VX=wi.drew:=⟨_,rfl⟩
       have hbX:Below wi.heap.size wi VX:=by rw[hVX];exact(Below.refl _ _).drew
       rw[<-hVX]
       have HBX:Hid (Below w9.heap.size w9 VX):=HBi.out.1.trans (hbX.mono HBi.out.1.size)
       clear hS hS0 c14 cm hVX hbX
       go_wp2
       refine⟨⟨m+1,by omega,rfl,HBX.out⟩,?_⟩
       simp[intOf];omega
      ·have q1:decide ((m:Int)<(n:Int))=false:=by simp;omega
       have HF:Hid (EDuo w wi R Q D E G H s s t ma mb a a na nb ca ca/\s.alone/\Sees wi da ua up/\Sees wi d4 e4 l/\up.length<=53/\l.length<=53):=⟨HBi.out.2,HV.out.2.1,HV.out.2.2.1.below HBi.out.1,HV.out.2.2.2.1.below HBi.out.1,HV.out.2.2.2.2.1,HV.out.2.2.2.2.2⟩
       go_wp2
       refine⟨⟨k+1,G,s,da,d4,ua,e4,up,l,by have:=HSE.out;omega,HSE.out.2.1,HSE.out.2.2.1,congrArg (λz=>Value.slice da z ua) H1.out.2.2.2.2.2.2.1,congrArg (λz=>Value.slice d4 z e4) HLL.out,rfl,HF.out.2.2.1,HF.out.2.2.2.1,HF.out.2.2.2.2.1,HF.out.2.2.2.2.2,HF.out.1,HF.out.2.1⟩,?_⟩
       simp[intOf];omega
    ·have he:(E2==0)=false:=by simp[he0]
     clear he0
     have HV:Hid (EDuo w w9 R Q D E G H s s t ma mb a a na nb ca ca/\s.alone/\Sees w9 da ua up/\Sees w9 db ub dn/\up.length<=53/\dn.length<=53):=⟨H9.out.1,H1.out.2.1,H9.out.2.1,H9.out.2.2.1,H1.out.2.2.2.2.1,H1.out.2.2.2.2.2.1⟩
     obtain⟨n,hn⟩:∃ n,n=s.ws.length:=⟨_,rfl⟩
     have HNN:Hid (n=s.ws.length):=hn
     have n8:n<=8:=by
      have h1:=HV.out.1.a.ok.num
      have h2:=(right_of HV.out.1.a.ok.cfg).n1
      omega
     clear hn
     go_wp2
     go_loopw [47] (λmv wr=>∃ (m:Nat),m<=n/\mv=.int .i64 (m:Int)/\Below w9.heap.size w9 wr) (λmv _=>n-(intOf mv).toNat)
     case atStart=>exact⟨0,Nat.zero_le _,rfl,Below.refl _ _⟩
     case round=>
      obtain⟨m,hmn,rfl,hB⟩:=hrel
      generalize wr=wi at *
      have g1:(0:Int)<=(m:Int):=Int.natCast_nonneg _
      have hDi:=HV.out.1.below hB
      have c14:wi.cell? ⟨D,14,none⟩=some (.slice (some ⟨G,0,none⟩) n n):=by rw[HNN.out];exact hDi.u.at'.cell 14 rfl
      have HBi:Hid (Below w9.heap.size w9 wi/\EDuo w wi R Q D E G H s s t ma mb a a na nb ca ca):=⟨hB,hDi⟩
      clear hB hDi
      by_cases hmk:m<n
      ·obtain⟨p,hp⟩:∃ p,s.ws[m]?=some p:=⟨s.ws[m]'(by rw[<-HNN.out];exact hmk),by simp⟩
       have cm:wi.cell? ⟨G,m*3,none⟩=some (.bool p.isSome):=by
        have:=HBi.out.2.u.ws.cell hp 0 (u:=.bool p.isSome) (by rcases p with _|⟨q1,q2⟩<;>rfl)
        exact this
       have KQ:=(HBi.out.2.below (Below.refl _ _).drew).a.asked (m:Int)
       rw[Ec.asB_at HV.out.2.1 HV.out.1.a.ok hp] at KQ
       obtain⟨B,hBB⟩:∃ B,B=p.isSome:=⟨_,rfl⟩
       rw[<-hBB] at KQ cm
       have q1:decide ((m:Int)<(n:Int))=true:=by simp;omega
       have j1:(m:Int)<(n:Int):=by omega
       have hS0:wi.drew.cell? ⟨D,14,none⟩=some (.slice (some ⟨G,0,none⟩) n n)/\wi.drew.cell? ⟨G,m*3,none⟩=some (.bool B):=⟨c14,cm⟩
       clear hp hBB
       go_upto_region 45 with fail
       refine wp_region_noPanic ?_
       refine wp_region_held (S:=λU=>U.cell? ⟨D,14,none⟩=some (.slice (some ⟨G,0,none⟩) n n)/\U.cell? ⟨G,m*3,none⟩=some (.bool B)) (by kernel_rfl) ?_
       have hS:=hS0
       refine tk 0 hS ?_
       refine tk 1 hS ?_
       refine tk 3 hS ?_
       refine tk 4 hS ?_
       refine tk 5 hS ?_
       refine tk 6 hS ?_
       refine tk 7 hS ?_
       refine tk 8 hS ?_
       refine tk 9 hS ?_
       refine tk 10 (v:=Value.bool B) (hv:=by intro w hSw;(try dsimp only at hSw);go_split_ands;go_simp) hS ?_
       refine any_one 2 rfl (by kernel_rfl) (by rfl) (λK hK=>?_)
       clear hS
       go_simp
       refine KQ.mono ?_
       rintro ev V1 ⟨rfl,hV1⟩
       rw[hV1]
       clear hV1 V1 KQ
       refine hK.out _ _ (hS0) (λhS=>?_)
       clear hK
       (try simp only[Act.put,sT])
       refine tk 11 (v:=Value.bool false) (hv:=by intro w hSw;(try dsimp only at hSw);go_split_ands;go_simp) hS ?_
       refine wpAnyH_done (by kernel_rfl) ?_ _
       refine NoPanic.normal ?_
       obtain⟨VX,hVX⟩:∃ VX,VX=wi.drew:=⟨_,rfl⟩
       have hbX:Below wi.heap.size wi VX:=by rw[hVX];exact(Below.refl _ _).drew
       rw[<-hVX]
       have HBX:Hid (Below w9.heap.size w9 VX):=HBi.out.1.trans (hbX.mono HBi.out.1.size)
       clear hS hS0 c14 cm hVX hbX
       go_wp2
       refine⟨⟨m+1,by omega,rfl,HBX.out⟩,?_⟩
       simp[intOf];omega
      ·have q1:decide ((m:Int)<(n:Int))=false:=by simp;omega
       have HF:Hid (EDuo w wi R Q D E G H s s t ma mb a a na nb ca ca/\s.alone/\Sees wi da ua up/\Sees wi db ub dn/\up.length<=53/\dn.length<=53):=⟨HBi.out.2,HV.out.2.1,HV.out.2.2.1.below HBi.out.1,HV.out.2.2.2.1.below HBi.out.1,HV.out.2.2.2.2.1,HV.out.2.2.2.2.2⟩
       go_wp2
       refine⟨⟨k+1,G,s,da,db,ua,ub,up,dn,by have:=HSE.out;omega,HSE.out.2.1,HSE.out.2.2.1,congrArg (λz=>Value.slice da z ua) H1.out.2.2.2.2.2.2.1,congrArg (λz=>Value.slice db z ub) H1.out.2.2.2.2.2.2.2,rfl,HF.out.2.2.1,HF.out.2.2.2.1,HF.out.2.2.2.2.1,HF.out.2.2.2.2.2,HF.out.1,HF.out.2.1⟩,?_⟩
       simp[intOf];omega
  ·as_aux_lemma=>
    have hr5:X.tmod 5=2:=hm5.trans hm
    clear hm5 hm
    obtain⟨F,hF⟩:∃ F,F=s.opF dn:=⟨_,rfl⟩
    obtain⟨E1,hE1⟩:∃ E1,E1=s.opE dn:=⟨_,rfl⟩
    have HF:Hid (s.opF dn=F/\s.opE dn=E1/\F.n<18446744073709551616):=⟨hF.symm,hE1.symm,by rw[hF];exact open_n _ _⟩
    have K1:=H1.out.1.a.opened db ub dn H1.out.2.2.2.1 (by have:=H1.out.2.2.2.2.2.1;omega)
    rw[HF.out.1,HF.out.2.1,<-H1.out.2.2.2.2.2.2.2] at K1
    clear hF hE1
    go_wp2_with fail
    refine K1.mono ?_
    rintro e w5 ⟨Ap,rfl,hsp,hb5⟩
    obtain⟨W5,hst5,hP5,hb55⟩:=fbox_laid hsp
    have hb5W:Below wo.heap.size wo W5:=hb5.trans (hb55.mono hb5.size)
    have HST5:Hid ((Instr.storeAt 40 (.pointer (some ⟨w5.heap.size,0,none⟩)) (.agg (frC F Ap))).run Tryz.prog (w5.alloc (.cells (frC Fr.zero At.zero) 40))=.ok () W5):=hst5
    have H5:Hid (EDuo w W5 R Q D E G H s s t ma mb a a na nb ca ca/\FBox W5 w5.heap.size F Ap/\Sees W5 da ua up/\Sees W5 db ub dn):=⟨H1.out.1.below hb5W,hP5,H1.out.2.2.1.below hb5W,H1.out.2.2.2.1.below hb5W⟩
    have K2:=deopen_any W5 D G s a ca H5.out.1.u db ub dn H5.out.2.2.2 (by have:=H1.out.2.2.2.2.2.1;omega)
    rw[HF.out.1,HF.out.2.1,<-H1.out.2.2.2.2.2.2.2] at K2
    clear K1 hsp hst5 hP5 hb5 hb55 hb5W cx2 cT2
    go_wp2_with (first|(refine wpList_store_run rfl 40 _ _ rfl _ _ rfl rfl HST5.out ?_)|fail)
    refine K2.mono ?_
    rintro e w6 ⟨Aq,rfl,hsq,hb6⟩
    obtain⟨W6,hst6,hQ6,hb66⟩:=fbox_laid hsq
    have hb6W:Below W5.heap.size W5 W6:=hb6.trans (hb66.mono hb6.size)
    have HST6:Hid ((Instr.storeAt 40 (.pointer (some ⟨w6.heap.size,0,none⟩)) (.agg (frC F Aq))).run Tryz.prog (w6.alloc (.cells (frC Fr.zero At.zero) 40))=.ok () W6):=hst6
    have H6:Hid (EDuo w W6 R Q D E G H s s t ma mb a a na nb ca ca/\FBox W6 w5.heap.size F Ap/\FBox W6 w6.heap.size F Aq/\Sees W6 da ua up/\Sees W6 db ub dn):=⟨H5.out.1.below hb6W,H5.out.2.1.below hb6W,hQ6,H5.out.2.2.1.below hb6W,H5.out.2.2.2.below hb6W⟩
    have HL6:Hid ((Instr.loadAt 40 (.pointer (some ⟨w5.heap.size,0,none⟩))).run Tryz.prog W6=.ok (.agg (frC F Ap)) W6):=H6.out.2.1.at'.loads
    clear K2 hsq hst6 hQ6 hb6 hb66 hb6W
    obtain⟨y,hy⟩:∃ y,y=s.heA F T:=⟨_,rfl⟩
    obtain⟨E2,hE2⟩:∃ E2,E2=s.heE F T:=⟨_,rfl⟩
    obtain⟨s',hs'⟩:∃ s',s'=s.heV F T:=⟨_,rfl⟩
    have HR:Hid (s.heA F T=y/\s.heE F T=E2/\s.heV F T=s'/\s'.alone):=⟨hy.symm,hE2.symm,hs'.symm,by rw[hs'];exact Ec.alone_hear H1.out.2.1 F T⟩
    have K3:=H6.out.1.a.hear F Ap H6.out.2.1.seen T
    rw[HR.out.1,HR.out.2.1,HR.out.2.2.1] at K3
    clear hy hE2 hs'
    go_wp2_with (first|(refine wpList_store_run rfl 40 _ _ rfl _ _ rfl rfl HST6.out ?_)|(refine wpList_gload_run rfl 40 _ rfl _ _ rfl HL6.out ?_)|fail)
    refine K3.mono ?_
    rintro e w7 ⟨d3,e3,rfl,hs3,hA3,ha3⟩
    obtain⟨W7,hst7,hP7,hs7,hb7⟩:=pn_laid hs3
    have HST7:Hid ((Instr.storeAt 51 (.pointer (some ⟨w7.heap.size,0,none⟩)) (.agg (anC y d3 e3))).run Tryz.prog (w7.alloc (.cells (anC An.zero none 0) 51))=.ok () W7):=hst7
    have hk3:=(EKept.node H6.out.1.a.all.at' ha3).trans (EKept.of_below hb7)
    have H7:Hid (EDuo w W7 R Q D E G H s' s t ma mb a a na nb ca ca/\FBox W7 w5.heap.size F Ap/\FBox W7 w6.heap.size F Aq/\Sees W7 da ua up/\Sees W7 db ub dn/\PnAt W7 w7.heap.size y d3 e3/\Sees W7 d3 e3 y.key):=⟨(H6.out.1.actA hA3 ha3).below hb7,H6.out.2.1.kept hk3,H6.out.2.2.1.kept hk3,hk3.sees H6.out.2.2.2.1,hk3.sees H6.out.2.2.2.2,hP7,hs7⟩
    have HL7:Hid ((Instr.loadAt 40 (.pointer (some ⟨w6.heap.size,0,none⟩))).run Tryz.prog W7=.ok (.agg (frC F Aq)) W7):=H7.out.2.2.1.at'.loads
    have K4:=dehear_any W7 D G s a ca H7.out.1.u H1.out.1.a.ok F Aq H7.out.2.2.1.seen T
    rw[HR.out.1,HR.out.2.1,HR.out.2.2.1] at K4
    clear K3 hs3 hA3 ha3 hst7 hP7 hs7 hb7 hk3 HL6 HST6
    go_wp2_with (first|(refine wpList_store_run rfl 51 _ _ rfl _ _ rfl rfl HST7.out ?_)|(refine wpList_gload_run rfl 40 _ rfl _ _ rfl HL7.out ?_)|fail)
    refine K4.mono ?_
    rintro e w8 ⟨d4,e4,rfl,hs4,hU4,ha4⟩
    obtain⟨W8,hst8,hP8,hs8,hb8⟩:=an_laid hs4
    have HST8:Hid ((Instr.storeAt 54 (.pointer (some ⟨w8.heap.size,0,none⟩)) (.agg (anC y d4 e4))).run Tryz.prog (w8.alloc (.cells (anC An.zero none 0) 54))=.ok () W8):=hst8
    have ha4':Apart (λk=>k=D\/k=G) W7 w8:=ha4.mono λk hk=>.inr hk
    have hk4:=(EKept.doc H7.out.1.u ha4').trans (EKept.of_below hb8)
    have H8:Hid (EDuo w W8 R Q D E G H s' s' t ma mb a a na nb ca ca/\FBox W8 w5.heap.size F Ap/\FBox W8 w6.heap.size F Aq/\Sees W8 da ua up/\Sees W8 db ub dn/\PnAt W8 w7.heap.size y d3 e3/\Sees W8 d3 e3 y.key/\AnAt W8 w8.heap.size y d4 e4/\Sees W8 d4 e4 y.key):=⟨(H7.out.1.actU hU4 (.inl rfl) ha4').below hb8,H7.out.2.1.kept hk4,H7.out.2.2.1.kept hk4,hk4.sees H7.out.2.2.2.1,hk4.sees H7.out.2.2.2.2.1,H7.out.2.2.2.2.2.1.kept hk4,hk4.sees H7.out.2.2.2.2.2.2,hP8,hs8⟩
    have HL8:Hid ((Instr.loadAt 40 (.pointer (some ⟨w5.heap.size,0,none⟩))).run Tryz.prog W8=.ok (.agg (frC F Ap)) W8):=H8.out.2.1.at'.loads
    have HL9:Hid ((Instr.loadAt 40 (.pointer (some ⟨w6.heap.size,0,none⟩))).run Tryz.prog W8=.ok (.agg (frC F Aq)) W8):=H8.out.2.2.1.at'.loads
    have K5:=rsame_any W8 F Ap F Aq H8.out.2.1.seen H8.out.2.2.1.seen true (esame_self F)
    clear K4 hs4 hU4 ha4 ha4' hst8 hP8 hs8 hb8 hk4 HL7 HST7
    go_wp2_with (first|(refine wpList_store_run rfl 54 _ _ rfl _ _ rfl rfl HST8.out ?_)|(refine wpList_gload_run rfl 40 _ rfl _ _ rfl HL8.out ?_)|(refine wpList_gload_run rfl 40 _ rfl _ _ rfl HL9.out ?_)|fail)
    refine K5.mono ?_
    rintro e w9 ⟨rfl,hb9⟩
    have H9:Hid (EDuo w w9 R Q D E G H s' s' t ma mb a a na nb ca ca/\Sees w9 da ua up/\Sees w9 db ub dn/\PnAt w9 w7.heap.size y d3 e3/\AnAt w9 w8.heap.size y d4 e4):=⟨H8.out.1.below hb9,H8.out.2.2.2.1.below hb9,H8.out.2.2.2.2.1.below hb9,H8.out.2.2.2.2.2.1.below hb9,H8.out.2.2.2.2.2.2.2.1.below hb9⟩
    have HLA:Hid ((Instr.loadAt 51 (.pointer (some ⟨w7.heap.size,0,none⟩))).run Tryz.prog w9=.ok (.agg (anC y d3 e3)) w9):=pn_loads H9.out.2.2.2.1
    have HLB:Hid ((Instr.loadAt 54 (.pointer (some ⟨w8.heap.size,0,none⟩))).run Tryz.prog w9=.ok (.agg (anC y d4 e4)) w9):=an_loads H9.out.2.2.2.2
    have K6:=answers_same w9 y d3 d4 e3 e4 (H8.out.2.2.2.2.2.2.1.below hb9) (H8.out.2.2.2.2.2.2.2.2.below hb9)
    clear K5 hb9 HL8 HL9 HST8
    go_wp2_with (first|(refine wpList_gload_run rfl 51 _ rfl _ _ rfl HLA.out ?_)|(refine wpList_gload_run rfl 54 _ rfl _ _ rfl HLB.out ?_)|fail)
    refine K6.mono ?_
    rintro e w10 ⟨rfl,hb10⟩
    have HV:Hid (EDuo w w10 R Q D E G H s' s' t ma mb a a na nb ca ca/\s'.alone/\Sees w10 da ua up/\Sees w10 db ub dn/\up.length<=53/\dn.length<=53):=⟨H9.out.1.below hb10,HR.out.2.2.2,H9.out.2.1.below hb10,H9.out.2.2.1.below hb10,H1.out.2.2.2.2.1,H1.out.2.2.2.2.2.1⟩
    clear K6 hb10 HLA HLB
    obtain⟨n,hn⟩:∃ n,n=s'.ws.length:=⟨_,rfl⟩
    have HNN:Hid (n=s'.ws.length):=hn
    have n8:n<=8:=by
     have h1:=HV.out.1.a.ok.num
     have h2:=(right_of HV.out.1.a.ok.cfg).n1
     omega
    clear hn
    go_wp2
    go_loopw [47] (λmv wr=>∃ (m:Nat),m<=n/\mv=.int .i64 (m:Int)/\Below w10.heap.size w10 wr) (λmv _=>n-(intOf mv).toNat)
    case atStart=>exact⟨0,Nat.zero_le _,rfl,Below.refl _ _⟩
    case round=>
     obtain⟨m,hmn,rfl,hB⟩:=hrel
     generalize wr=wi at *
     have g1:(0:Int)<=(m:Int):=Int.natCast_nonneg _
     have hDi:=HV.out.1.below hB
     have c14:wi.cell? ⟨D,14,none⟩=some (.slice (some ⟨G,0,none⟩) n n):=by rw[HNN.out];exact hDi.u.at'.cell 14 rfl
     have HBi:Hid (Below w10.heap.size w10 wi/\EDuo w wi R Q D E G H s' s' t ma mb a a na nb ca ca):=⟨hB,hDi⟩
     clear hB hDi
     by_cases hmk:m<n
     ·obtain⟨p,hp⟩:∃ p,s'.ws[m]?=some p:=⟨s'.ws[m]'(by rw[<-HNN.out];exact hmk),by simp⟩
      have cm:wi.cell? ⟨G,m*3,none⟩=some (.bool p.isSome):=by
       have:=HBi.out.2.u.ws.cell hp 0 (u:=.bool p.isSome) (by rcases p with _|⟨q1,q2⟩<;>rfl)
       exact this
      have KQ:=(HBi.out.2.below (Below.refl _ _).drew).a.asked (m:Int)
      rw[Ec.asB_at HV.out.2.1 HV.out.1.a.ok hp] at KQ
      obtain⟨B,hBB⟩:∃ B,B=p.isSome:=⟨_,rfl⟩
      rw[<-hBB] at KQ cm
      have q1:decide ((m:Int)<(n:Int))=true:=by simp;omega
      have j1:(m:Int)<(n:Int):=by omega
      have hS0:wi.drew.cell? ⟨D,14,none⟩=some (.slice (some ⟨G,0,none⟩) n n)/\wi.drew.cell? ⟨G,m*3,none⟩=some (.bool B):=⟨c14,cm⟩
      clear hp hBB
      go_upto_region 45 with fail
      refine wp_region_noPanic ?_
      refine wp_region_held (S:=λU=>U.cell? ⟨D,14,none⟩=some (.slice (some ⟨G,0,none⟩) n n)/\U.cell? ⟨G,m*3,none⟩=some (.bool B)) (by kernel_rfl) ?_
      have hS:=hS0
      refine tk 0 hS ?_
      refine tk 1 hS ?_
      refine tk 3 hS ?_
      refine tk 4 hS ?_
      refine tk 5 hS ?_
      refine tk 6 hS ?_
      refine tk 7 hS ?_
      refine tk 8 hS ?_
      refine tk 9 hS ?_
      refine tk 10 (v:=Value.bool B) (hv:=by intro w hSw;(try dsimp only at hSw);go_split_ands;go_simp) hS ?_
      refine any_one 2 rfl (by kernel_rfl) (by rfl) (λK hK=>?_)
      clear hS
      go_simp
      refine KQ.mono ?_
      rintro ev V1 ⟨rfl,hV1⟩
      rw[hV1]
      clear hV1 V1 KQ
      refine hK.out _ _ (hS0) (λhS=>?_)
      clear hK
      (try simp only[Act.put,sT])
      refine tk 11 (v:=Value.bool false) (hv:=by intro w hSw;(try dsimp only at hSw);go_split_ands;go_simp) hS ?_
      refine wpAnyH_done (by kernel_rfl) ?_ _
      refine NoPanic.normal ?_
      obtain⟨VX,hVX⟩:∃ VX,VX=wi.drew:=⟨_,rfl⟩
      have hbX:Below wi.heap.size wi VX:=by rw[hVX];exact(Below.refl _ _).drew
      rw[<-hVX]
      have HBX:Hid (Below w10.heap.size w10 VX):=HBi.out.1.trans (hbX.mono HBi.out.1.size)
      clear hS hS0 c14 cm hVX hbX
      go_wp2
      refine⟨⟨m+1,by omega,rfl,HBX.out⟩,?_⟩
      simp[intOf];omega
     ·have q1:decide ((m:Int)<(n:Int))=false:=by simp;omega
      have HF:Hid (EDuo w wi R Q D E G H s' s' t ma mb a a na nb ca ca/\s'.alone/\Sees wi da ua up/\Sees wi db ub dn/\up.length<=53/\dn.length<=53):=⟨HBi.out.2,HV.out.2.1,HV.out.2.2.1.below HBi.out.1,HV.out.2.2.2.1.below HBi.out.1,HV.out.2.2.2.2.1,HV.out.2.2.2.2.2⟩
      go_wp2
      refine⟨⟨k+1,G,s',da,db,ua,ub,up,dn,by have:=HSE.out;omega,HSE.out.2.1,HSE.out.2.2.1,congrArg (λz=>Value.slice da z ua) H1.out.2.2.2.2.2.2.1,congrArg (λz=>Value.slice db z ub) H1.out.2.2.2.2.2.2.2,rfl,HF.out.2.2.1,HF.out.2.2.2.1,HF.out.2.2.2.2.1,HF.out.2.2.2.2.2,HF.out.1,HF.out.2.1⟩,?_⟩
      simp[intOf];omega
  ·as_aux_lemma=>
    have hr5:X.tmod 5=3:=hm5.trans hm
    clear hm5 hm
    obtain⟨F,hF⟩:∃ F,F=s.opF dn:=⟨_,rfl⟩
    obtain⟨E1,hE1⟩:∃ E1,E1=s.opE dn:=⟨_,rfl⟩
    have HF:Hid (s.opF dn=F/\s.opE dn=E1/\F.n<18446744073709551616):=⟨hF.symm,hE1.symm,by rw[hF];exact open_n _ _⟩
    have K1:=H1.out.1.a.opened db ub dn H1.out.2.2.2.1 (by have:=H1.out.2.2.2.2.2.1;omega)
    rw[HF.out.1,HF.out.2.1,<-H1.out.2.2.2.2.2.2.2] at K1
    clear hF hE1
    go_wp2_with fail
    refine K1.mono ?_
    rintro e w5 ⟨Ap,rfl,hsp,hb5⟩
    obtain⟨W5,hst5,hP5,hb55⟩:=fbox_laid hsp
    have hb5W:Below wo.heap.size wo W5:=hb5.trans (hb55.mono hb5.size)
    have HST5:Hid ((Instr.storeAt 40 (.pointer (some ⟨w5.heap.size,0,none⟩)) (.agg (frC F Ap))).run Tryz.prog (w5.alloc (.cells (frC Fr.zero At.zero) 40))=.ok () W5):=hst5
    have H5:Hid (EDuo w W5 R Q D E G H s s t ma mb a a na nb ca ca/\FBox W5 w5.heap.size F Ap/\Sees W5 da ua up/\Sees W5 db ub dn):=⟨H1.out.1.below hb5W,hP5,H1.out.2.2.1.below hb5W,H1.out.2.2.2.1.below hb5W⟩
    have K2:=deopen_any W5 D G s a ca H5.out.1.u db ub dn H5.out.2.2.2 (by have:=H1.out.2.2.2.2.2.1;omega)
    rw[HF.out.1,HF.out.2.1,<-H1.out.2.2.2.2.2.2.2] at K2
    clear K1 hsp hst5 hP5 hb5 hb55 hb5W cx2 cT2
    go_wp2_with (first|(refine wpList_store_run rfl 40 _ _ rfl _ _ rfl rfl HST5.out ?_)|fail)
    refine K2.mono ?_
    rintro e w6 ⟨Aq,rfl,hsq,hb6⟩
    obtain⟨W6,hst6,hQ6,hb66⟩:=fbox_laid hsq
    have hb6W:Below W5.heap.size W5 W6:=hb6.trans (hb66.mono hb6.size)
    have HST6:Hid ((Instr.storeAt 40 (.pointer (some ⟨w6.heap.size,0,none⟩)) (.agg (frC F Aq))).run Tryz.prog (w6.alloc (.cells (frC Fr.zero At.zero) 40))=.ok () W6):=hst6
    have H6:Hid (EDuo w W6 R Q D E G H s s t ma mb a a na nb ca ca/\FBox W6 w5.heap.size F Ap/\FBox W6 w6.heap.size F Aq/\Sees W6 da ua up/\Sees W6 db ub dn):=⟨H5.out.1.below hb6W,H5.out.2.1.below hb6W,hQ6,H5.out.2.2.1.below hb6W,H5.out.2.2.2.below hb6W⟩
    have HL6:Hid ((Instr.loadAt 40 (.pointer (some ⟨w5.heap.size,0,none⟩))).run Tryz.prog W6=.ok (.agg (frC F Ap)) W6):=H6.out.2.1.at'.loads
    clear K2 hsq hst6 hQ6 hb6 hb66 hb6W
    obtain⟨y,hy⟩:∃ y,y=s.heA F T:=⟨_,rfl⟩
    obtain⟨E2,hE2⟩:∃ E2,E2=s.heE F T:=⟨_,rfl⟩
    obtain⟨s',hs'⟩:∃ s',s'=s.heV F T:=⟨_,rfl⟩
    have HR:Hid (s.heA F T=y/\s.heE F T=E2/\s.heV F T=s'/\s'.alone):=⟨hy.symm,hE2.symm,hs'.symm,by rw[hs'];exact Ec.alone_hear H1.out.2.1 F T⟩
    have K3:=H6.out.1.a.hear F Ap H6.out.2.1.seen T
    rw[HR.out.1,HR.out.2.1,HR.out.2.2.1] at K3
    clear hy hE2 hs'
    go_wp2_with (first|(refine wpList_store_run rfl 40 _ _ rfl _ _ rfl rfl HST6.out ?_)|(refine wpList_gload_run rfl 40 _ rfl _ _ rfl HL6.out ?_)|fail)
    refine K3.mono ?_
    rintro e w7 ⟨d3,e3,rfl,hs3,hA3,ha3⟩
    obtain⟨W7,hst7,hP7,hs7,hb7⟩:=pn_laid hs3
    have HST7:Hid ((Instr.storeAt 51 (.pointer (some ⟨w7.heap.size,0,none⟩)) (.agg (anC y d3 e3))).run Tryz.prog (w7.alloc (.cells (anC An.zero none 0) 51))=.ok () W7):=hst7
    have hk3:=(EKept.node H6.out.1.a.all.at' ha3).trans (EKept.of_below hb7)
    have H7:Hid (EDuo w W7 R Q D E G H s' s t ma mb a a na nb ca ca/\FBox W7 w5.heap.size F Ap/\FBox W7 w6.heap.size F Aq/\Sees W7 da ua up/\Sees W7 db ub dn/\PnAt W7 w7.heap.size y d3 e3/\Sees W7 d3 e3 y.key):=⟨(H6.out.1.actA hA3 ha3).below hb7,H6.out.2.1.kept hk3,H6.out.2.2.1.kept hk3,hk3.sees H6.out.2.2.2.1,hk3.sees H6.out.2.2.2.2,hP7,hs7⟩
    have HL7:Hid ((Instr.loadAt 40 (.pointer (some ⟨w6.heap.size,0,none⟩))).run Tryz.prog W7=.ok (.agg (frC F Aq)) W7):=H7.out.2.2.1.at'.loads
    have K4:=dehear_any W7 D G s a ca H7.out.1.u H1.out.1.a.ok F Aq H7.out.2.2.1.seen T
    rw[HR.out.1,HR.out.2.1,HR.out.2.2.1] at K4
    clear K3 hs3 hA3 ha3 hst7 hP7 hs7 hb7 hk3 HL6 HST6
    go_wp2_with (first|(refine wpList_store_run rfl 51 _ _ rfl _ _ rfl rfl HST7.out ?_)|(refine wpList_gload_run rfl 40 _ rfl _ _ rfl HL7.out ?_)|fail)
    refine K4.mono ?_
    rintro e w8 ⟨d4,e4,rfl,hs4,hU4,ha4⟩
    obtain⟨W8,hst8,hP8,hs8,hb8⟩:=an_laid hs4
    have HST8:Hid ((Instr.storeAt 54 (.pointer (some ⟨w8.heap.size,0,none⟩)) (.agg (anC y d4 e4))).run Tryz.prog (w8.alloc (.cells (anC An.zero none 0) 54))=.ok () W8):=hst8
    have ha4':Apart (λk=>k=D\/k=G) W7 w8:=ha4.mono λk hk=>.inr hk
    have hk4:=(EKept.doc H7.out.1.u ha4').trans (EKept.of_below hb8)
    have H8:Hid (EDuo w W8 R Q D E G H s' s' t ma mb a a na nb ca ca/\FBox W8 w5.heap.size F Ap/\FBox W8 w6.heap.size F Aq/\Sees W8 da ua up/\Sees W8 db ub dn/\PnAt W8 w7.heap.size y d3 e3/\Sees W8 d3 e3 y.key/\AnAt W8 w8.heap.size y d4 e4/\Sees W8 d4 e4 y.key):=⟨(H7.out.1.actU hU4 (.inl rfl) ha4').below hb8,H7.out.2.1.kept hk4,H7.out.2.2.1.kept hk4,hk4.sees H7.out.2.2.2.1,hk4.sees H7.out.2.2.2.2.1,H7.out.2.2.2.2.2.1.kept hk4,hk4.sees H7.out.2.2.2.2.2.2,hP8,hs8⟩
    have HL8:Hid ((Instr.loadAt 40 (.pointer (some ⟨w5.heap.size,0,none⟩))).run Tryz.prog W8=.ok (.agg (frC F Ap)) W8):=H8.out.2.1.at'.loads
    have HL9:Hid ((Instr.loadAt 40 (.pointer (some ⟨w6.heap.size,0,none⟩))).run Tryz.prog W8=.ok (.agg (frC F Aq)) W8):=H8.out.2.2.1.at'.loads
    have K5:=rsame_any W8 F Ap F Aq H8.out.2.1.seen H8.out.2.2.1.seen true (esame_self F)
    clear K4 hs4 hU4 ha4 ha4' hst8 hP8 hs8 hb8 hk4 HL7 HST7
    go_wp2_with (first|(refine wpList_store_run rfl 54 _ _ rfl _ _ rfl rfl HST8.out ?_)|(refine wpList_gload_run rfl 40 _ rfl _ _ rfl HL8.out ?_)|(refine wpList_gload_run rfl 40 _ rfl _ _ rfl HL9.out ?_)|fail)
    refine K5.mono ?_
    rintro e w9 ⟨rfl,hb9⟩
    have H9:Hid (EDuo w w9 R Q D E G H s' s' t ma mb a a na nb ca ca/\Sees w9 da ua up/\Sees w9 db ub dn/\PnAt w9 w7.heap.size y d3 e3/\AnAt w9 w8.heap.size y d4 e4):=⟨H8.out.1.below hb9,H8.out.2.2.2.1.below hb9,H8.out.2.2.2.2.1.below hb9,H8.out.2.2.2.2.2.1.below hb9,H8.out.2.2.2.2.2.2.2.1.below hb9⟩
    have HLA:Hid ((Instr.loadAt 51 (.pointer (some ⟨w7.heap.size,0,none⟩))).run Tryz.prog w9=.ok (.agg (anC y d3 e3)) w9):=pn_loads H9.out.2.2.2.1
    have HLB:Hid ((Instr.loadAt 54 (.pointer (some ⟨w8.heap.size,0,none⟩))).run Tryz.prog w9=.ok (.agg (anC y d4 e4)) w9):=an_loads H9.out.2.2.2.2
    have K6:=answers_same w9 y d3 d4 e3 e4 (H8.out.2.2.2.2.2.2.1.below hb9) (H8.out.2.2.2.2.2.2.2.2.below hb9)
    clear K5 hb9 HL8 HL9 HST8
    go_wp2_with (first|(refine wpList_gload_run rfl 51 _ rfl _ _ rfl HLA.out ?_)|(refine wpList_gload_run rfl 54 _ rfl _ _ rfl HLB.out ?_)|fail)
    refine K6.mono ?_
    rintro e w10 ⟨rfl,hb10⟩
    have HV:Hid (EDuo w w10 R Q D E G H s' s' t ma mb a a na nb ca ca/\s'.alone/\Sees w10 da ua up/\Sees w10 db ub dn/\up.length<=53/\dn.length<=53):=⟨H9.out.1.below hb10,HR.out.2.2.2,H9.out.2.1.below hb10,H9.out.2.2.1.below hb10,H1.out.2.2.2.2.1,H1.out.2.2.2.2.2.1⟩
    clear K6 hb10 HLA HLB
    obtain⟨n,hn⟩:∃ n,n=s'.ws.length:=⟨_,rfl⟩
    have HNN:Hid (n=s'.ws.length):=hn
    have n8:n<=8:=by
     have h1:=HV.out.1.a.ok.num
     have h2:=(right_of HV.out.1.a.ok.cfg).n1
     omega
    clear hn
    go_wp2
    go_loopw [47] (λmv wr=>∃ (m:Nat),m<=n/\mv=.int .i64 (m:Int)/\Below w10.heap.size w10 wr) (λmv _=>n-(intOf mv).toNat)
    case atStart=>exact⟨0,Nat.zero_le _,rfl,Below.refl _ _⟩
    case round=>
     obtain⟨m,hmn,rfl,hB⟩:=hrel
     generalize wr=wi at *
     have g1:(0:Int)<=(m:Int):=Int.natCast_nonneg _
     have hDi:=HV.out.1.below hB
     have c14:wi.cell? ⟨D,14,none⟩=some (.slice (some ⟨G,0,none⟩) n n):=by rw[HNN.out];exact hDi.u.at'.cell 14 rfl
     have HBi:Hid (Below w10.heap.size w10 wi/\EDuo w wi R Q D E G H s' s' t ma mb a a na nb ca ca):=⟨hB,hDi⟩
     clear hB hDi
     by_cases hmk:m<n
     ·obtain⟨p,hp⟩:∃ p,s'.ws[m]?=some p:=⟨s'.ws[m]'(by rw[<-HNN.out];exact hmk),by simp⟩
      have cm:wi.cell? ⟨G,m*3,none⟩=some (.bool p.isSome):=by
       have:=HBi.out.2.u.ws.cell hp 0 (u:=.bool p.isSome) (by rcases p with _|⟨q1,q2⟩<;>rfl)
       exact this
      have KQ:=(HBi.out.2.below (Below.refl _ _).drew).a.asked (m:Int)
      rw[Ec.asB_at HV.out.2.1 HV.out.1.a.ok hp] at KQ
      obtain⟨B,hBB⟩:∃ B,B=p.isSome:=⟨_,rfl⟩
      rw[<-hBB] at KQ cm
      have q1:decide ((m:Int)<(n:Int))=true:=by simp;omega
      have j1:(m:Int)<(n:Int):=by omega
      have hS0:wi.drew.cell? ⟨D,14,none⟩=some (.slice (some ⟨G,0,none⟩) n n)/\wi.drew.cell? ⟨G,m*3,none⟩=some (.bool B):=⟨c14,cm⟩
      clear hp hBB
      go_upto_region 45 with fail
      refine wp_region_noPanic ?_
      refine wp_region_held (S:=λU=>U.cell? ⟨D,14,none⟩=some (.slice (some ⟨G,0,none⟩) n n)/\U.cell? ⟨G,m*3,none⟩=some (.bool B)) (by kernel_rfl) ?_
      have hS:=hS0
      refine tk 0 hS ?_
      refine tk 1 hS ?_
      refine tk 3 hS ?_
      refine tk 4 hS ?_
      refine tk 5 hS ?_
      refine tk 6 hS ?_
      refine tk 7 hS ?_
      refine tk 8 hS ?_
      refine tk 9 hS ?_
      refine tk 10 (v:=Value.bool B) (hv:=by intro w hSw;(try dsimp only at hSw);go_split_ands;go_simp) hS ?_
      refine any_one 2 rfl (by kernel_rfl) (by rfl) (λK hK=>?_)
      clear hS
      go_simp
      refine KQ.mono ?_
      rintro ev V1 ⟨rfl,hV1⟩
      rw[hV1]
      clear hV1 V1 KQ
      refine hK.out _ _ (hS0) (λhS=>?_)
      clear hK
      (try simp only[Act.put,sT])
      refine tk 11 (v:=Value.bool false) (hv:=by intro w hSw;(try dsimp only at hSw);go_split_ands;go_simp) hS ?_
      refine wpAnyH_done (by kernel_rfl) ?_ _
      refine NoPanic.normal ?_
      obtain⟨VX,hVX⟩:∃ VX,VX=wi.drew:=⟨_,rfl⟩
      have hbX:Below wi.heap.size wi VX:=by rw[hVX];exact(Below.refl _ _).drew
      rw[<-hVX]
      have HBX:Hid (Below w10.heap.size w10 VX):=HBi.out.1.trans (hbX.mono HBi.out.1.size)
      clear hS hS0 c14 cm hVX hbX
      go_wp2
      refine⟨⟨m+1,by omega,rfl,HBX.out⟩,?_⟩
      simp[intOf];omega
     ·have q1:decide ((m:Int)<(n:Int))=false:=by simp;omega
      have HF:Hid (EDuo w wi R Q D E G H s' s' t ma mb a a na nb ca ca/\s'.alone/\Sees wi da ua up/\Sees wi db ub dn/\up.length<=53/\dn.length<=53):=⟨HBi.out.2,HV.out.2.1,HV.out.2.2.1.below HBi.out.1,HV.out.2.2.2.1.below HBi.out.1,HV.out.2.2.2.2.1,HV.out.2.2.2.2.2⟩
      go_wp2
      refine⟨⟨k+1,G,s',da,db,ua,ub,up,dn,by have:=HSE.out;omega,HSE.out.2.1,HSE.out.2.2.1,congrArg (λz=>Value.slice da z ua) H1.out.2.2.2.2.2.2.1,congrArg (λz=>Value.slice db z ub) H1.out.2.2.2.2.2.2.2,rfl,HF.out.2.2.1,HF.out.2.2.2.1,HF.out.2.2.2.2.1,HF.out.2.2.2.2.2,HF.out.1,HF.out.2.1⟩,?_⟩
      simp[intOf];omega
  ·as_aux_lemma=>
    have hr5:X.tmod 5=4:=hm5.trans hm
    clear hm5 hm
    obtain⟨s',hs'⟩:∃ s',s'=s.forV:=⟨_,rfl⟩
    have K1:=H1.out.1.a.forget
    rw[<-hs'] at K1
    have HS':Hid (s.forV=s'/\s'.alone):=⟨hs'.symm,by rw[hs'];exact Ec.alone_for H1.out.1.a.ok⟩
    clear hs'
    go_wp2_with fail
    refine K1.mono ?_
    rintro e w5 ⟨rfl,hA1,ha1⟩
    have H5:Hid (EDuo w w5 R Q D E G H s' s t ma mb a a na nb ca ca/\Sees w5 da ua up/\Sees w5 db ub dn):=by
     have hk:=EKept.node H1.out.1.a.all.at' ha1
     exact⟨H1.out.1.actA hA1 ha1,hk.sees H1.out.2.2.1,hk.sees H1.out.2.2.2.1⟩
    have K2:=deforget_ok w5 D G s a ca H5.out.1.u H1.out.1.a.ok
    rw[HS'.out.1] at K2
    clear K1 hA1 ha1 cx2 cT2
    go_wp2_with fail
    refine K2.mono ?_
    rintro e w6 ⟨rfl,hU2,ha2⟩
    have ha2':Apart (λk=>k=D\/k=G) w5 w6:=ha2.mono λk hk=>.inl hk
    have hk2:=EKept.doc H5.out.1.u ha2'
    obtain⟨GN,hGN⟩:∃ GN,GN=w5.heap.size:=⟨_,rfl⟩
    rw[<-hGN] at hU2
    have HV:Hid (EDuo w w6 R Q D E GN H s' s' t ma mb a a na nb ca ca/\s'.alone/\Sees w6 da ua up/\Sees w6 db ub dn/\up.length<=53/\dn.length<=53):=⟨H5.out.1.actU hU2 (.inr (by omega)) ha2',HS'.out.2,hk2.sees H5.out.2.1,hk2.sees H5.out.2.2,H1.out.2.2.2.2.1,H1.out.2.2.2.2.2.1⟩
    clear K2 hU2 ha2 ha2' hk2 hGN
    obtain⟨n,hn⟩:∃ n,n=s'.ws.length:=⟨_,rfl⟩
    have HNN:Hid (n=s'.ws.length):=hn
    have n8:n<=8:=by
     have h1:=HV.out.1.a.ok.num
     have h2:=(right_of HV.out.1.a.ok.cfg).n1
     omega
    clear hn
    go_wp2
    go_loopw [47] (λmv wr=>∃ (m:Nat),m<=n/\mv=.int .i64 (m:Int)/\Below w6.heap.size w6 wr) (λmv _=>n-(intOf mv).toNat)
    case atStart=>exact⟨0,Nat.zero_le _,rfl,Below.refl _ _⟩
    case round=>
     obtain⟨m,hmn,rfl,hB⟩:=hrel
     generalize wr=wi at *
     have g1:(0:Int)<=(m:Int):=Int.natCast_nonneg _
     have hDi:=HV.out.1.below hB
     have c14:wi.cell? ⟨D,14,none⟩=some (.slice (some ⟨GN,0,none⟩) n n):=by rw[HNN.out];exact hDi.u.at'.cell 14 rfl
     have HBi:Hid (Below w6.heap.size w6 wi/\EDuo w wi R Q D E GN H s' s' t ma mb a a na nb ca ca):=⟨hB,hDi⟩
     clear hB hDi
     by_cases hmk:m<n
     ·obtain⟨p,hp⟩:∃ p,s'.ws[m]?=some p:=⟨s'.ws[m]'(by rw[<-HNN.out];exact hmk),by simp⟩
      have cm:wi.cell? ⟨GN,m*3,none⟩=some (.bool p.isSome):=by
       have:=HBi.out.2.u.ws.cell hp 0 (u:=.bool p.isSome) (by rcases p with _|⟨q1,q2⟩<;>rfl)
       exact this
      have KQ:=(HBi.out.2.below (Below.refl _ _).drew).a.asked (m:Int)
      rw[Ec.asB_at HV.out.2.1 HV.out.1.a.ok hp] at KQ
      obtain⟨B,hBB⟩:∃ B,B=p.isSome:=⟨_,rfl⟩
      rw[<-hBB] at KQ cm
      have q1:decide ((m:Int)<(n:Int))=true:=by simp;omega
      have j1:(m:Int)<(n:Int):=by omega
      have hS0:wi.drew.cell? ⟨D,14,none⟩=some (.slice (some ⟨GN,0,none⟩) n n)/\wi.drew.cell? ⟨GN,m*3,none⟩=some (.bool B):=⟨c14,cm⟩
      clear hp hBB
      go_upto_region 45 with fail
      refine wp_region_noPanic ?_
      refine wp_region_held (S:=λU=>U.cell? ⟨D,14,none⟩=some (.slice (some ⟨GN,0,none⟩) n n)/\U.cell? ⟨GN,m*3,none⟩=some (.bool B)) (by kernel_rfl) ?_
      have hS:=hS0
      refine tk 0 hS ?_
      refine tk 1 hS ?_
      refine tk 3 hS ?_
      refine tk 4 hS ?_
      refine tk 5 hS ?_
      refine tk 6 hS ?_
      refine tk 7 hS ?_
      refine tk 8 hS ?_
      refine tk 9 hS ?_
      refine tk 10 (v:=Value.bool B) (hv:=by intro w hSw;(try dsimp only at hSw);go_split_ands;go_simp) hS ?_
      refine any_one 2 rfl (by kernel_rfl) (by rfl) (λK hK=>?_)
      clear hS
      go_simp
      refine KQ.mono ?_
      rintro ev V1 ⟨rfl,hV1⟩
      rw[hV1]
      clear hV1 V1 KQ
      refine hK.out _ _ (hS0) (λhS=>?_)
      clear hK
      (try simp only[Act.put,sT])
      refine tk 11 (v:=Value.bool false) (hv:=by intro w hSw;(try dsimp only at hSw);go_split_ands;go_simp) hS ?_
      refine wpAnyH_done (by kernel_rfl) ?_ _
      refine NoPanic.normal ?_
      obtain⟨VX,hVX⟩:∃ VX,VX=wi.drew:=⟨_,rfl⟩
      have hbX:Below wi.heap.size wi VX:=by rw[hVX];exact(Below.refl _ _).drew
      rw[<-hVX]
      have HBX:Hid (Below w6.heap.size w6 VX):=HBi.out.1.trans (hbX.mono HBi.out.1.size)
      clear hS hS0 c14 cm hVX hbX
      go_wp2
      refine⟨⟨m+1,by omega,rfl,HBX.out⟩,?_⟩
      simp[intOf];omega
     ·have q1:decide ((m:Int)<(n:Int))=false:=by simp;omega
      have HF:Hid (EDuo w wi R Q D E GN H s' s' t ma mb a a na nb ca ca/\s'.alone/\Sees wi da ua up/\Sees wi db ub dn/\up.length<=53/\dn.length<=53):=⟨HBi.out.2,HV.out.2.1,HV.out.2.2.1.below HBi.out.1,HV.out.2.2.2.1.below HBi.out.1,HV.out.2.2.2.2.1,HV.out.2.2.2.2.2⟩
      go_wp2
      refine⟨⟨k+1,GN,s',da,db,ua,ub,up,dn,by have:=HSE.out;omega,HSE.out.2.1,HSE.out.2.2.1,congrArg (λz=>Value.slice da z ua) H1.out.2.2.2.2.2.2.1,congrArg (λz=>Value.slice db z ub) H1.out.2.2.2.2.2.2.2,rfl,HF.out.2.2.1,HF.out.2.2.2.1,HF.out.2.2.2.2.1,HF.out.2.2.2.2.2,HF.out.1,HF.out.2.1⟩,?_⟩
      simp[intOf];omega
end Go.Proofs.YtahnbljbhfpldaaGreatDoor
