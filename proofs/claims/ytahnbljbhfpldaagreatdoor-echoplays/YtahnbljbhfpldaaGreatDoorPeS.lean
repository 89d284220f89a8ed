/-
  One node of the program, act by act; the config of the statements; awake.
-/
import Derived.Test.YtahnbljbhfpldaaGreatDoorPeI
import Derived.Test.YtahnbljbhfpldaaGreatDoorPeE
import Derived.Test.YtahnbljbhfpldaaGreatDoorPeF
import Derived.Test.YtahnbljbhfpldaaGreatDoorPeD
namespace Go.Proofs.YtahnbljbhfpldaaGreatDoor
set_option maxRecDepth 20000
set_option maxHeartbeats 1600000
open Go.ChangeShapes Go.WideShapes Go.ChangeAt Go.RowKit
structure ESolo (w0 w:World)(R:Nat)(s:Ec)(ma:Option Addr)(mc:Nat):Prop where
 all:PEAll w R s ma mc
 ok:s.ok
 tab:Tabs w
 old:w0.heap.size<=R
 two:2<=w0.heap.size
 bel:Below w0.heap.size w0 w
theorem ESolo.below {w0 w w':World}{R:Nat}{s:Ec}{ma:Option Addr}{mc:Nat}(h:ESolo w0 w R s ma mc)(hb:Below w.heap.size w w'):ESolo w0 w' R s ma mc:=
 ⟨h.all.below hb,h.ok,h.tab.below hb,h.old,h.two,h.bel.trans (hb.mono h.bel.size)⟩
theorem ESolo.step {w0 w w':World}{R:Nat}{s t:Ec}{ma:Option Addr}{mc:Nat}(h:ESolo w0 w R s ma mc)(ha:Apart (λk=>k=R) w w')(pa:PEAll w' R t ma mc)(ht:t.ok):ESolo w0 w' R t ma mc:=
 ⟨pa,ht,tabs_apart h.tab ha (λk hk=>by have:=h.old;have:=h.two;omega),h.old,h.two,ha.below h.bel (λk hk=>by have:=h.old;omega) h.bel.size⟩
theorem ESolo.other {w0 w w':World}{R Q:Nat}{s t:Ec}{ma mb:Option Addr}{mc md:Nat}(h:ESolo w0 w R s ma mc)(g:ESolo w0 w Q t mb md)(ha:Apart (λk=>k=R) w w')(hne:Q≠R):ESolo w0 w' Q t mb md:=
 ⟨⟨(ha.block _ g.all.at'.lt hne).trans g.all.at',h.all.at'.aside ha g.all.ms⟩,g.ok,tabs_apart g.tab ha (λk hk=>by have:=h.old;have:=h.two;omega),g.old,g.two,ha.below g.bel (λk hk=>by have:=h.old;omega) g.bel.size⟩
theorem ESolo.newRow (w0 w:World)(h2:2<=w0.heap.size)(hT:Tabs w)(hb:Below w0.heap.size w0 w)(c:Cf)(a:Option Addr)(ca:Nat)(ms:List UInt8)(i inc:Int)(ha:Sees w a ca ms)(h:ecB c ms i inc=true):Calls Tryz.prog 8 #[.agg (cfC c),.slice a ms.length ca,.int .i64 i,.int .i64 inc] w λe w'=>∃ R d cd,e=.returned (.tuple #[.pointer (some ⟨R,0,none⟩),.int .i64 0])/\ESolo w0 w' R (ecNew c ms i inc) d cd/\w.heap.size<=R/\Below w.heap.size w w'/\U8Row w' d:=by
 refine(penew_row w c a ca ms i inc ha h).mono ?_
 rintro e w' ⟨R,d,cd,rfl,hR,hA,hbl,hrw⟩
 exact⟨R,d,cd,rfl,⟨hA,ecNew_ok h,hT.below hbl,by have:=hb.size;omega,h2,hb.trans (hbl.mono hb.size)⟩,hR,hbl,hrw⟩
theorem ESolo.new (w0 w:World)(h2:2<=w0.heap.size)(hT:Tabs w)(hb:Below w0.heap.size w0 w)(c:Cf)(a:Option Addr)(ca:Nat)(ms:List UInt8)(i inc:Int)(ha:Sees w a ca ms)(h:ecB c ms i inc=true):Calls Tryz.prog 8 #[.agg (cfC c),.slice a ms.length ca,.int .i64 i,.int .i64 inc] w λe w'=>∃ R d cd,e=.returned (.tuple #[.pointer (some ⟨R,0,none⟩),.int .i64 0])/\ESolo w0 w' R (ecNew c ms i inc) d cd/\w.heap.size<=R/\Below w.heap.size w w':=(ESolo.newRow w0 w h2 hT hb c a ca ms i inc ha h).mono λ_ _ ⟨R,d,cd,h1,h3,h4,h5,_⟩=>⟨R,d,cd,h1,h3,h4,h5⟩
theorem Ec.askE_cases (s:Ec)(jj now:Int):s.askE jj now=0\/s.askE jj now=1\/s.askE jj now=9:=by
 unfold Ec.askE
 split
 ·split
  ·exact .inr (.inr rfl)
  ·exact .inl rfl
 ·exact .inr (.inl rfl)
theorem ESolo.ask {w0 w:World}{R:Nat}{s:Ec}{ma:Option Addr}{mc:Nat}(h:ESolo w0 w R s ma mc)(jj now:Int):
  Calls Tryz.prog 11 #[.pointer (some ⟨R,0,none⟩),.int .i64 jj,.int .i64 now] w λe w'=>∃ d cd,e=.returned (.tuple #[.slice d (s.askR jj now).length cd,.int .i64 (s.askE jj now)])/\Sees w' d cd (s.askR jj now)/\ESolo w0 w' R (s.askV jj now) ma mc/\Apart (λk=>k=R) w w':=by
 rcases s.askE_cases jj now with hE|hE|hE
 ·rw[hE]
  refine(peask_ok w R s ma mc h.all h.ok h.tab (by have:=h.old;have:=h.two;omega) jj now hE).mono ?_
  rintro e w' ⟨d,cd,rfl,hs,hp,ha⟩
  exact⟨d,cd,rfl,hs,h.step ha hp (Ec.askV_ok h.ok jj now),ha⟩
 ·have e1:s.askR jj now=[]:=by unfold Ec.askR;rw[hE];rfl
  have e2:s.askV jj now=s:=by unfold Ec.askV;rw[hE];rfl
  rw[hE,e1,e2]
  refine(peask_no w R s ma mc h.all.at' h.ok.ms jj now hE).mono ?_
  rintro e w' ⟨rfl,rfl⟩
  exact⟨none,0,rfl,Sees.nil' _,h,Apart.refl _ _⟩
 ·have e1:s.askR jj now=[]:=by unfold Ec.askR;rw[hE];rfl
  have e2:s.askV jj now=s:=by unfold Ec.askV;rw[hE];rfl
  rw[hE,e1,e2]
  refine(peask_full w R s ma mc h.all.at' h.ok jj now hE).mono ?_
  rintro e w' ⟨rfl,rfl⟩
  exact⟨none,0,rfl,Sees.nil' _,h,Apart.refl _ _⟩
theorem ESolo.hear {w0 w:World}{R:Nat}{s:Ec}{ma:Option Addr}{mc:Nat}(h:ESolo w0 w R s ma mc)(F:Fr)(A:At)(hF:Seen w F A)(now:Int):
  Calls Tryz.prog 18 #[.pointer (some ⟨R,0,none⟩),.agg (frC F A),.int .i64 now] w λe w'=>∃ a c,e=.returned (.tuple #[.agg (anC (s.heA F now) a c),.int .i64 (s.heE F now)])/\Sees w' a c (s.heA F now).key/\ESolo w0 w' R (s.heV F now) ma mc/\Apart (λk=>k=R) w w':=by
 refine(pehear_any w R s ma mc h.all h.ok F A hF now).mono ?_
 rintro e w' ⟨a,c,rfl,hs,hp,ha⟩
 exact⟨a,c,rfl,hs,h.step ha hp (Ec.heV_ok h.ok F now),ha⟩
theorem ESolo.forget {w0 w:World}{R:Nat}{s:Ec}{ma:Option Addr}{mc:Nat}(h:ESolo w0 w R s ma mc):
  Calls Tryz.prog 21 #[.pointer (some ⟨R,0,none⟩)] w λe w'=>e=.returned (.tuple #[])/\ESolo w0 w' R s.forV ma mc/\Apart (λk=>k=R) w w':=by
 refine(peforget_ok w R s ma mc h.all h.ok).mono ?_
 rintro e w' ⟨rfl,hp,ha⟩
 exact⟨rfl,h.step ha hp (Ec.forV_ok h.ok),ha⟩
theorem ESolo.asked {w0 w:World}{R:Nat}{s:Ec}{ma:Option Addr}{mc:Nat}(h:ESolo w0 w R s ma mc)(jj:Int):
  Calls Tryz.prog 23 #[.pointer (some ⟨R,0,none⟩),.int .i64 jj] w λe w'=>e=.returned (.bool (s.asB jj))/\w'=w:=peasked_ok w R s ma mc h.all.at' h.ok jj
theorem ESolo.opened {w0 w:World}{R:Nat}{s:Ec}{ma:Option Addr}{mc:Nat}(h:ESolo w0 w R s ma mc)(x:Option Addr)(cx:Nat)(l:List UInt8)(hx:Sees w x cx l)(hl:l.length<=140737488351232):
  Calls Tryz.prog 13 #[.pointer (some ⟨R,0,none⟩),.slice x l.length cx] w λe w'=>Got w w' e (s.opF l) (s.opE l):=peopen_any w R s ma mc h.all h.ok.ms h.tab x cx l hx hl
theorem ESolo.reply {w0 w:World}{R:Nat}{s:Ec}{ma:Option Addr}{mc:Nat}(h:ESolo w0 w R s ma mc)(F:Fr)(A:At)(hF:Seen w F A)(hn:F.n<18446744073709551616)(m ep st ix:Int)(k:Option Addr)(ck:Nat)(key:List UInt8)(hk:Sees w k ck key):
  Calls Tryz.prog 15 #[.pointer (some ⟨R,0,none⟩),.agg (frC F A),.int .i64 m,.int .i64 ep,.int .i64 st,.int .i64 ix,.slice k key.length ck] w λe w'=>FTells w w' e (s.repR F m ep st ix key) (s.repE F m ep st ix key):=pereply_any w R s ma mc h.all h.ok.ms h.tab F A hF hn m ep st ix k ck key hk
def usE:Cf:=⟨3,0,400,1,16,400,400,1,2,8⟩
theorem usual_ok (w:World):Calls Tryz.prog 24 #[] w λe w'=>e=.returned (.agg (cfC usE))/\Below w.heap.size w w':=by
 have hb:∀ W,(Instr.build 23 #[(0,.int .i64 3),(2,.int .i64 400),(3,.int .i64 1),(4,.int .i64 16),(5,.int .i64 400),(6,.int .i64 400),(7,.int .i64 1),(8,.int .i64 2),(9,.int .i64 8)]).run Tryz.prog W=.ok (.agg (cfC usE)) W:=λW=>by
  kernel_rfl
 have h0:CfAt (w.alloc (.cells (cfC Cf.zero) 23)) w.heap.size Cf.zero:=CfAt.new w _
 have HB:Hid ((Instr.build 23 #[(0,.int .i64 3),(2,.int .i64 400),(3,.int .i64 1),(4,.int .i64 16),(5,.int .i64 400),(6,.int .i64 400),(7,.int .i64 1),(8,.int .i64 2),(9,.int .i64 8)]).run Tryz.prog (w.alloc (.cells (cfC Cf.zero) 23))=.ok (.agg (cfC usE)) (w.alloc (.cells (cfC Cf.zero) 23))):=hb _
 have HS:Hid ((Instr.storeAt 23 (.pointer (some ⟨w.heap.size,0,none⟩)) (.agg (cfC usE))).run Tryz.prog (w.alloc (.cells (cfC Cf.zero) 23))=.ok () ((w.alloc (.cells (cfC Cf.zero) 23)).setRow w.heap.size (cfC usE))):=h0.stores usE
 have HE:Hid (CfAt ((w.alloc (.cells (cfC Cf.zero) 23)).setRow w.heap.size (cfC usE)) w.heap.size usE/\Below w.heap.size w ((w.alloc (.cells (cfC Cf.zero) 23)).setRow w.heap.size (cfC usE))):=
  ⟨h0.stored usE,below_setRow (Go.Joins.below_alloc1 _ _) (Nat.le_refl _) _⟩
 clear hb h0
 go_enter Tryz.func24,Tryz.ntmps24
 go_wp2_with (first|(refine wpList_build_run rfl 23 _ rfl [(0,.int .i64 3),(2,.int .i64 400),(3,.int .i64 1),(4,.int .i64 16),(5,.int .i64 400),(6,.int .i64 400),(7,.int .i64 1),(8,.int .i64 2),(9,.int .i64 8)] _ rfl HB.out ?_)|(refine wpList_store_run rfl 23 _ _ rfl _ _ rfl rfl HS.out ?_)|fail)
 refine bodyPost_ret (res_cf rfl rfl HE.out.1) rfl ?_
 exact⟨rfl,HE.out.2⟩
theorem eping_len {key:List UInt8}{i jj:Int}{n:Nat}(hb:tagB key (ecPing i jj n)=true):(sealR key (ecPing i jj n)).length=21:=by
 unfold sealR
 rw[if_pos hb]
 have h:(putL (sealF key (ecPing i jj n))).length=(packL (coreBits (sealF key (ecPing i jj n))++bitsOf (tagL key (ecPing i jj n)))).length+3:=(fix_take _).1
 rw[h,packL_length,List.length_append,bitsOf_length,tagL_length]
 simp[coreBits,kindBits,pingBits,sealF,ecPing,bitsN_length]
theorem made16 (w:World):∃ w',(Instr.makeSlice 24 (.int .i64 16) (.int .i64 16)).run Tryz.prog w=.ok (.slice (some ⟨w.heap.size,0,none⟩) 16 16) w'/\Sees w' (some ⟨w.heap.size,0,none⟩) 16 (List.replicate 16 0)/\Below w.heap.size w w':=by
 obtain⟨i5,hi,hz0,hz1,hz2⟩:=info_parts Tryz.info5
 obtain⟨w',hrun,hown,hgrow⟩:=run_make_full (P:=Tryz.prog) w w.heap.size 24 5 i5 (.int .u8 0) 1 Tryz.underlying24 hi hz0 hz1 .i64 .i64 16 (by rw[hz2];omega) (by unfold maxLen;omega) (Nat.le_refl _)
 have ho:w'.ownsRow w.heap.size 5 1 (.slice (some ⟨w.heap.size,0,none⟩) 16 16) 16 ((List.replicate 16 (0:UInt8)).map cellOf):=by rw[<-made_bytes];exact hown
 obtain⟨d,cd,hv,hs⟩:=Sees.of_own ho
 simp only[Value.slice.injEq] at hv
 rw[<-hv.1,<-hv.2.2] at hs
 exact⟨w',hrun,hs,(Below.refl _ _).grown hgrow (Nat.le_refl _) (by intro k h;cases h)⟩
theorem op_make_run {P:Program}{w w':World}{o:Oper}{a:Act}{K:Act->World->Prop}{Q:Exit->Act->World->Prop}(t:TypeId)(x y:Operand)(ho:o.op=.makeSlice t x y)(v u r:Value)(hx:a.eval x=v)(hy:a.eval y=u)(hrun:(Instr.makeSlice t v u).run P w=.ok r w')(h:K (a.put o.dst r) w'):Oper.wp P o a w K Q:=by
 unfold Oper.wp execOp
 simp only[ho,hx,hy,Sem.run_bind,hrun,Result.andThen_ok,Sem.run_pure]
 exact h
theorem op_make16 {w:World}{o:Oper}{a:Act}{K:Act->World->Prop}{Q:Exit->Act->World->Prop}(x y:Operand)(ho:o.op=.makeSlice 24 x y)(hx:a.eval x=.int .i64 16)(hy:a.eval y=.int .i64 16)(h:∀ w',Sees w' (some ⟨w.heap.size,0,none⟩) 16 (List.replicate 16 0)->Below w.heap.size w w'->K (a.put o.dst (.slice (some ⟨w.heap.size,0,none⟩) 16 16)) w'):Oper.wp Tryz.prog o a w K Q:=by
 obtain⟨w',hrun,h1,h2⟩:=made16 w
 exact op_make_run 24 x y ho _ _ _ hx hy hrun (h w' h1 h2)
def nought16:List UInt8:=List.replicate 16 0
def wakeS:Ec:=ecNew usE nought16 1 5
theorem wake_asked:wakeS.askE 2 7=0/\(wakeS.askV 2 7).asB 2=true:=by decide
theorem wake_21:(wakeS.askR 2 7).length=21:=by
 have h:wakeS.askR 2 7=sealR (pairK wakeS.ms wakeS.i 2) (ecPing wakeS.i 2 wakeS.non):=if_pos wake_asked.1
 rw[h]
 refine eping_len ((tagB_iff _ _).2 ⟨(pairK_len (ms:=wakeS.ms) (i:=wakeS.i) (j:=2) (by decide) (by decide) (by decide) (by decide)).2,eping_core (by decide) (by decide) (by decide)⟩)
theorem eawake_ok (w:World)(hT:Tabs w):Calls Tryz.prog 10 #[] w λe w'=>e=.returned (.bool true)/\Below w.heap.size w w':=by
 have KU:=usual_ok
 have KN:Hid (∀ V p,Below w.heap.size w V->Sees V p 16 nought16->Calls Tryz.prog 8 #[.agg (cfC usE),.slice p 16 16,.int .i64 1,.int .i64 5] V λe w'=>∃ R d cd,e=.returned (.tuple #[.pointer (some ⟨R,0,none⟩),.int .i64 0])/\ESolo w w' R wakeS d cd):=λV p hV hs=>by
  refine(ESolo.new w V hT.2.two (hT.below hV) hV usE p 16 nought16 1 5 hs (by decide)).mono ?_
  rintro e w' ⟨R,d,cd,rfl,h,_⟩
  exact⟨R,d,cd,rfl,h⟩
 clear hT
 go_enter Tryz.func10,Tryz.ntmps10
 go_wp2_with fail
 refine wp_region_noPanic ?_
 refine wp_region_held (S:=λV=>Below w.heap.size w V) (by kernel_rfl) ?_
 have hS:=(Below.refl w.heap.size w).drew
 refine any_two 0 1 rfl rfl (by kernel_rfl) (by rfl) (by rfl) (λK hK=>?_) (λK hK=>?_)
 ·have hSS:_:=hS
  clear hS
  go_simp
  refine(KU _).mono ?_
  rintro ev wu ⟨rfl,hbu⟩
  (try replace hsm:=Sees.below hsm hbu)
  refine hK.out _ _ (hSS.trans (hbu.mono hSS.size)) (λhS=>?_)
  clear hK
  (try simp only[Act.put,sT])
  refine any_one 1 rfl (by kernel_rfl) (by rfl) (λK hK=>?_)
  have hSS:_:=hS
  clear hS
  refine op_make16 _ _ rfl rfl rfl ?_
  intro wm hsm hbm
  refine hK.out _ _ (hSS.trans (hbm.mono hSS.size)) (λhS=>?_)
  clear hK
  (try simp only[Act.put,sT])
  refine any_one 2 rfl (by kernel_rfl) (by rfl) (λK hK=>?_)
  have hSS:_:=hS
  clear hS
  go_simp
  refine(KN.out _ _ hSS hsm).mono ?_
  rintro ev w3 ⟨R,d,cd,rfl,hP⟩
  clear hSS hsm
  refine hK.out _ _ (hP.bel) (λhS=>?_)
  clear hK
  (try simp only[Act.put,sT])
  refine tk 3 hS ?_
  refine tk 4 hS ?_
  refine tk 5 hS ?_
  refine tk 6 hS ?_
  refine tk 7 hS ?_
  refine wpAnyH_done (by kernel_rfl) ?_ _
  refine NoPanic.normal ?_
  clear hS
  have k3:=hP.ask 2 7
  rw[wake_asked.1,wake_21] at k3
  clear hP
  go_wp2_with fail
  refine k3.mono ?_
  rintro ev w4 ⟨d4,c4,rfl,_,hP4,_⟩
  have k4:=hP4.asked 2
  rw[wake_asked.2] at k4
  have HE:Hid (Below w.heap.size w w4):=hP4.bel
  clear k3 hP4
  go_wp2_with fail
  refine k4.mono ?_
  rintro ev w5 ⟨rfl,rfl⟩
  clear k4
  go_wp2
  go_ret
  exact⟨rfl,HE.out⟩
 ·have hSS:_:=hS
  clear hS
  refine op_make16 _ _ rfl rfl rfl ?_
  intro wm hsm hbm
  refine hK.out _ _ (hSS.trans (hbm.mono hSS.size)) (λhS=>?_)
  clear hK
  (try simp only[Act.put,sT])
  refine any_one 0 rfl (by kernel_rfl) (by rfl) (λK hK=>?_)
  have hSS:_:=hS
  clear hS
  go_simp
  refine(KU _).mono ?_
  rintro ev wu ⟨rfl,hbu⟩
  (try replace hsm:=Sees.below hsm hbu)
  refine hK.out _ _ (hSS.trans (hbu.mono hSS.size)) (λhS=>?_)
  clear hK
  (try simp only[Act.put,sT])
  refine any_one 2 rfl (by kernel_rfl) (by rfl) (λK hK=>?_)
  have hSS:_:=hS
  clear hS
  go_simp
  refine(KN.out _ _ hSS hsm).mono ?_
  rintro ev w3 ⟨R,d,cd,rfl,hP⟩
  clear hSS hsm
  refine hK.out _ _ (hP.bel) (λhS=>?_)
  clear hK
  (try simp only[Act.put,sT])
  refine tk 3 hS ?_
  refine tk 4 hS ?_
  refine tk 5 hS ?_
  refine tk 6 hS ?_
  refine tk 7 hS ?_
  refine wpAnyH_done (by kernel_rfl) ?_ _
  refine NoPanic.normal ?_
  clear hS
  have k3:=hP.ask 2 7
  rw[wake_asked.1,wake_21] at k3
  clear hP
  go_wp2_with fail
  refine k3.mono ?_
  rintro ev w4 ⟨d4,c4,rfl,_,hP4,_⟩
  have k4:=hP4.asked 2
  rw[wake_asked.2] at k4
  have HE:Hid (Below w.heap.size w w4):=hP4.bel
  clear k3 hP4
  go_wp2_with fail
  refine k4.mono ?_
  rintro ev w5 ⟨rfl,rfl⟩
  clear k4
  go_wp2
  go_ret
  exact⟨rfl,HE.out⟩
end Go.Proofs.YtahnbljbhfpldaaGreatDoor
