/- A helper. -/
import Derived.Stop.Asserts
import Derived.Lib.IfaceEq
import Derived.Test.YtmffplhaclnehaaGreatDoorFrameE
import Derived.Test.YtmffplhaclnehaaGreatDoorPureB
import Derived.Test.YtmffplhaclnehaaGreatDoorChainR
namespace Go.Proofs.YtmffplhaclnehaaGreatDoor
set_option maxRecDepth 20000
set_option maxHeartbeats 1600000
open Go.ChangeShapes Go.WideShapes Go.ChangeAt Go.RowKit Go.Extern.Stop Go.Stop Go.Extern
variable {w w':World}
def CQ (s:ByteArray)(n:Int):Value:=.iface 223 (.agg #[.string s,.int .i64 n])
theorem CR (s:ByteArray)(w:World):Calls Tryz.prog 98 #[.string s,.int .i64 0] w λe w'=>e=.returned .nilIface/\w'=w:=by
 go_enter Tryz.func98,Tryz.ntmps98
 go_wp2
 go_ret
 exact⟨rfl,rfl⟩
theorem l6 (s:ByteArray)(n:Int)(hn:(n==0)=false)(w:World):Calls Tryz.prog 98 #[.string s,.int .i64 n] w λe w'=>e=.returned (CQ s n)/\w'=w:=by
 have HB:Hid ((Instr.build 223 #[(0,.string s),(1,.int .i64 n)]).run Tryz.prog w=.ok (.agg #[.string s,.int .i64 n]) w):=run_build w 223 _ _ (by kernel_rfl)
 go_enter Tryz.func98,Tryz.ntmps98
 go_wp2_with (first|(refine aB rfl 223 _ rfl [(0,.string s),(1,.int .i64 n)] _ rfl HB.out ?_)|fail)
 go_ret
 exact⟨rfl,rfl⟩
open Go.ChangeShapes Go.WideShapes Go.ChangeAt Go.RowKit
def oL (key:List UInt8)(F:Fr):List UInt8:=(gI (keyOf key qI []) (mY F)).take 8
def pU (key:List UInt8)(F:Fr):Bool:=decide (key.length=16)&&bH F
def AR (key:List UInt8)(F:Fr):List UInt8:=if pU key F=true then oL key F else []
def AU (key:List UInt8)(F:Fr):Int:=if pU key F=true then 0 else 1
def fQ (key:List UInt8)(F:Fr):Bool:=pU key F&&decide (oL key F=F.tag)
theorem CS (key:List UInt8)(F:Fr):(oL key F).length=8:=by
 unfold oL;rw[List.length_take,gZ];rfl
theorem xJ (key:List UInt8)(F:Fr):pU key F=true↔key.length=16/\bH F=true:=by unfold pU;simp
theorem zq (F:Fr)(hn:F.n<18446744073709551616)(hr:bH F=true):(mY F).length<=43:=by
 have:=Ck F hn hr
 unfold mY;rw[dH];omega
theorem CU (key:List UInt8)(h:key.length=16):uA key=(keyOf key qI [],0):=by
 unfold uA;rw[if_pos h];exact Gp _ _ _ labels.2.2.2 (by simp) (by omega)
theorem H9 (key:List UInt8)(h:¬ key.length=16):uA key=([],1):=by unfold uA;rw[if_neg h]
def sZ (w:World):Prop:=fJ w/\bN w
theorem sZ.below (h:sZ w)(hb:Below w.heap.size w w'):sZ w':=⟨h.1.below hb,h.2.below hb⟩
theorem CX (w:World)(a:Option Addr)(ca:Nat)(key:List UInt8)(hT:sZ w)(ha:ag w a ca key)(h16:key.length=16):
  Calls Tryz.prog 144 #[.slice a key.length ca] w λe w'=>∃ d cd r,Hid (r=keyOf key qI [])/\e=.returned (.tuple #[.slice d r.length cd,.int .i64 0])/\ag w' d cd r/\Below w.heap.size w w':=by
 have h:=NM w a ca key hT.1 hT.2 ha
 rw[CU key h16] at h
 exact h.mono λe w' ⟨d,cd,r,h1,h2,h3,h4⟩=>⟨d,cd,r,h1,h2,h3,h4⟩
theorem Rw (w:World)(a:Option Addr)(ca:Nat)(key:List UInt8)(hT:sZ w)(ha:ag w a ca key)(h16:¬ key.length=16):
  Calls Tryz.prog 144 #[.slice a key.length ca] w λe w'=>∃ d cd,e=.returned (.tuple #[.slice d 0 cd,.int .i64 1])/\Below w.heap.size w w':=by
 have h:=NM w a ca key hT.1 hT.2 ha
 rw[H9 key h16] at h
 refine h.mono λe w' ⟨d,cd,r,h1,h2,h3,h4⟩=>?_
 have hr:r=[]:=h1.out
 subst hr
 exact⟨d,cd,h2,h4⟩
theorem zu (w:World)(a:Option Addr)(ca:Nat)(key:List UInt8)(ha:ag w a ca key)(h16:key.length=16):
  Calls Tryz.prog 183 #[.slice a key.length ca] w λe w'=>∃ d cd r,Hid (r=keyOf key qI [])/\e=.returned (.tuple #[.slice d r.length cd,.int .i64 0])/\ag w' d cd r/\Below w.heap.size w w':=by
 have h:=CP w a ca key ha
 rw[CU key h16] at h
 exact h.mono λe w' ⟨d,cd,r,h1,h2,h3,h4⟩=>⟨d,cd,r,h1,h2,h3,h4⟩
theorem Ov (w:World)(a:Option Addr)(ca:Nat)(key:List UInt8)(ha:ag w a ca key)(h16:¬ key.length=16):
  Calls Tryz.prog 183 #[.slice a key.length ca] w λe w'=>∃ d cd,e=.returned (.tuple #[.slice d 0 cd,.int .i64 1])/\Below w.heap.size w w':=by
 have h:=CP w a ca key ha
 rw[H9 key h16] at h
 refine h.mono λe w' ⟨d,cd,r,h1,h2,h3,h4⟩=>?_
 have hr:r=[]:=h1.out
 subst hr
 exact⟨d,cd,h2,h4⟩
def Tq (w w':World)(e:Ending)(key:List UInt8)(F:Fr)(v:Value):Prop:=∃ d cd r,Hid (r=oL key F)/\e=.returned (.tuple #[.slice d 8 cd,v])/\r.length=8/\ag w' d cd r/\Below w.heap.size w w'
theorem Km (w:World)(F:Fr)(A:At)(k:Option Addr)(ck:Nat)(key:List UInt8)(hT:sZ w)(hF:Seen w F A)(hn:F.n<18446744073709551616)(hk:ag w k ck key)(h16:key.length=16)(hc:bH F=true):
  Calls Tryz.prog 96 #[.agg (au F A),.slice k key.length ck] w λe w'=>Tq w w' e key F .nilIface:=by
 have hb0:Below w.heap.size w (w.alloc (.cells (au F A) 61)):=Go.Joins.below_alloc1 _ _
 have hm:=CX (w.alloc (.cells (au F A) 61)) k ck key (hT.below hb0) (hk.below hb0) h16
 have H0:Hid (aj (w.alloc (.cells (au F A) 61)) w.heap.size F A/\Below w.heap.size w (w.alloc (.cells (au F A) 61))):=⟨aj.new w F A,hb0⟩
 have HT:Hid (sZ w/\Seen w F A/\F.n<18446744073709551616/\bH F=true):=⟨hT,hF,hn,hc⟩
 clear hb0 hT hF hn hk h16 hc
 go_enter Tryz.func96,Tryz.ntmps96
 go_upto_region 1 with fail
 generalize w.alloc (Obj.cells (au F A) 61)=W0 at *
 go_wp2_with fail
 refine hm.mono ?_
 rintro e w1 ⟨d1,c1,r1,hr1,rfl,hs1,hb1⟩
 have rJ:Below w.heap.size w w1:=H0.out.2.trans (hb1.mono H0.out.2.size)
 have hL:=(H0.out.1.below hb1).loads
 have hco:=M9 w1 F A (HT.out.2.1.below rJ) HT.out.2.2.1 HT.out.2.2.2
 have HL:Hid ((Instr.loadAt 61 (.pointer (some ⟨w.heap.size,0,none⟩))).run Tryz.prog w1=.ok (.agg (au F A)) w1):=hL
 have H1:Hid (Below w.heap.size w w1/\ag w1 d1 c1 r1/\r1=keyOf key qI []):=⟨rJ,hs1,hr1.out⟩
 clear hm hr1 hs1 hb1 rJ hL H0
 go_wp2_with (first|(refine af rfl 61 _ rfl _ _ rfl HL.out ?_)|fail)
 refine hco.mono ?_
 rintro e w2 ⟨d2,c2,r2,hr2,rfl,hs2,hb2⟩
 have oJ:Below w.heap.size w w2:=H1.out.1.trans (hb2.mono H1.out.1.size)
 have vz:=HT.out.1.below oJ
 have hsh:Calls Tryz.prog 146 #[.slice d1 r1.length c1,.slice d2 r2.length c2,.int .i64 8] w2 _:=JQ w2 d1 c1 r1 d2 c2 r2 8 vz.1 vz.2 (H1.out.2.1.below hb2) hs2 (by rw[H1.out.2.2,nQ];decide) (by rw[hr2.out];have:=zq F HT.out.2.2.1 HT.out.2.2.2;omega) (by decide) (by decide)
 have H2:Hid (Below w.heap.size w w2/\r1=keyOf key qI []/\r2=mY F):=⟨oJ,H1.out.2.2,hr2.out⟩
 clear hco hr2 hs2 hb2 oJ vz HL H1
 go_wp2_with fail
 refine hsh.mono ?_
 rintro e w3 ⟨d3,c3,r3,hr3,rfl,hl3,hs3,hb3,_⟩
 have H3:Hid (Hid (r3=oL key F)/\r3.length=8/\ag w3 d3 c3 r3/\Below w.heap.size w w3):=⟨by show r3=oL key F;rw[hr3.out,H2.out.2.1,H2.out.2.2];rfl,hl3,hs3,H2.out.1.trans (hb3.mono H2.out.1.size)⟩
 clear hsh hr3 hl3 hs3 hb3 H2
 go_wp2_with fail
 refine(CR _ w3).mono ?_
 rintro e w4 ⟨rfl,rfl⟩
 go_wp2
 go_ret2
 exact⟨d3,c3,r3,H3.out.1,rfl,H3.out.2⟩
theorem Kn (w:World)(F:Fr)(A:At)(k:Option Addr)(ck:Nat)(key:List UInt8)(hT:sZ w)(hk:ag w k ck key)(h16:¬ key.length=16):
  Calls Tryz.prog 96 #[.agg (au F A),.slice k key.length ck] w λe w'=>∃ s,e=.returned (.tuple #[.slice none 0 0,CQ s 1])/\Below w.heap.size w w':=by
 have hb0:Below w.heap.size w (w.alloc (.cells (au F A) 61)):=Go.Joins.below_alloc1 _ _
 have hm:=Rw (w.alloc (.cells (au F A) 61)) k ck key (hT.below hb0) (hk.below hb0) h16
 have H0:Hid (Below w.heap.size w (w.alloc (.cells (au F A) 61))):=hb0
 clear hb0 hT hk h16
 go_enter Tryz.func96,Tryz.ntmps96
 go_upto_region 1 with fail
 generalize w.alloc (Obj.cells (au F A) 61)=W0 at *
 go_wp2_with fail
 refine hm.mono ?_
 rintro e w1 ⟨d1,c1,rfl,hb1⟩
 have H1:Hid (Below w.heap.size w w1):=H0.out.trans (hb1.mono H0.out.size)
 clear hm hb1 H0
 go_wp2_with fail
 refine(l6 _ 1 (by decide) w1).mono ?_
 rintro e w4 ⟨rfl,rfl⟩
 go_wp2
 go_ret2
 exact⟨_,rfl,H1.out⟩
theorem Fv (w:World)(F:Fr)(A:At)(k:Option Addr)(ck:Nat)(key:List UInt8)(hT:sZ w)(hF:Seen w F A)(hk:ag w k ck key)(h16:key.length=16)(hc:bH F=false):
  Calls Tryz.prog 96 #[.agg (au F A),.slice k key.length ck] w λe w'=>∃ s,e=.returned (.tuple #[.slice none 0 0,CQ s 1])/\Below w.heap.size w w':=by
 have hb0:Below w.heap.size w (w.alloc (.cells (au F A) 61)):=Go.Joins.below_alloc1 _ _
 have hm:=CX (w.alloc (.cells (au F A) 61)) k ck key (hT.below hb0) (hk.below hb0) h16
 have H0:Hid (aj (w.alloc (.cells (au F A) 61)) w.heap.size F A/\Below w.heap.size w (w.alloc (.cells (au F A) 61))):=⟨aj.new w F A,hb0⟩
 have HT:Hid (Seen w F A/\bH F=false):=⟨hF,hc⟩
 clear hb0 hT hF hk h16 hc
 go_enter Tryz.func96,Tryz.ntmps96
 go_upto_region 1 with fail
 generalize w.alloc (Obj.cells (au F A) 61)=W0 at *
 go_wp2_with fail
 refine hm.mono ?_
 rintro e w1 ⟨d1,c1,r1,hr1,rfl,hs1,hb1⟩
 have rJ:Below w.heap.size w w1:=H0.out.2.trans (hb1.mono H0.out.2.size)
 have hL:=(H0.out.1.below hb1).loads
 have hco:=QJ w1 F A (HT.out.1.below rJ) HT.out.2
 have HL:Hid ((Instr.loadAt 61 (.pointer (some ⟨w.heap.size,0,none⟩))).run Tryz.prog w1=.ok (.agg (au F A)) w1):=hL
 have H1:Hid (Below w.heap.size w w1):=rJ
 clear hm hr1 hs1 hb1 rJ hL H0
 go_wp2_with (first|(refine af rfl 61 _ rfl _ _ rfl HL.out ?_)|fail)
 refine hco.mono ?_
 rintro e w2 ⟨rfl,hb2⟩
 have H2:Hid (Below w.heap.size w w2):=H1.out.trans (hb2.mono H1.out.size)
 clear hco hb2 HL H1
 go_wp2_with fail
 refine(l6 _ 1 (by decide) w2).mono ?_
 rintro e w4 ⟨rfl,rfl⟩
 go_wp2
 go_ret2
 exact⟨_,rfl,H2.out⟩
theorem Ow (w:World)(F:Fr)(A:At)(k:Option Addr)(ck:Nat)(key:List UInt8)(hT:sZ w)(hF:Seen w F A)(hk:ag w k ck key)(hb:pU key F=false):
  Calls Tryz.prog 96 #[.agg (au F A),.slice k key.length ck] w λe w'=>∃ s,e=.returned (.tuple #[.slice none 0 0,CQ s 1])/\Below w.heap.size w w':=by
 by_cases h16:key.length=16
 ·have hc:bH F=false:=by
   cases h:bH F
   ·rfl
   ·have:=(xJ key F).2 ⟨h16,h⟩
    rw[hb] at this;cases this
  exact Fv w F A k ck key hT hF hk h16 hc
 ·exact Kn w F A k ck key hT hk h16
theorem Ox {key:List UInt8}{F:Fr}{d:Option Addr}{cd:Nat}{r:List UInt8}(hb:pU key F=true)(hr:r=oL key F)(hs:ag w' d cd r)(hw:Below w.heap.size w w'):
  Av w w' (.returned (.tuple #[.slice d 8 cd,.int .i64 0])) (AR key F) (AU key F):=by
 unfold AR AU
 rw[if_pos hb,if_pos hb,<-hr]
 exact⟨d,cd,by rw[hr,CS],hs,hw⟩
theorem CY {key:List UInt8}{F:Fr}(hb:pU key F=false)(hw:Below w.heap.size w w'):Av w w' (.returned (.tuple #[.slice none 0 0,.int .i64 1])) (AR key F) (AU key F):=by
 unfold AR AU
 rw[if_neg (by rw[hb];decide),if_neg (by rw[hb];decide)]
 exact⟨none,0,rfl,ag.nil' _,hw⟩
def Oy (b:Bool)(e:Ending):Prop:=(b=true->e=.returned .nilIface)/\(b=false->∃ s,e=.returned (CQ s 13))
theorem Ko (w:World)(F:Fr)(A:At)(k:Option Addr)(ck:Nat)(key:List UInt8)(hT:sZ w)(hF:Seen w F A)(hk:ag w k ck key)(hb:pU key F=false):
  Calls Tryz.prog 53 #[.agg (au F A),.slice k key.length ck] w λe w'=>∃ s,e=.returned (CQ s 13)/\Below w.heap.size w w':=by
 have hb0:Below w.heap.size w (w.alloc (.cells (au F A) 61)):=Go.Joins.below_alloc1 _ _
 have H0:Hid (Below w.heap.size w (w.alloc (.cells (au F A) 61))):=hb0
 have HL:Hid ((Instr.loadAt 61 (.pointer (some ⟨w.heap.size,0,none⟩))).run Tryz.prog (w.alloc (.cells (au F A) 61))=.ok (.agg (au F A)) (w.alloc (.cells (au F A) 61))):=(aj.new w F A).loads
 have hm:=Ow (w.alloc (.cells (au F A) 61)) F A k ck key (hT.below hb0) (hF.below hb0) (hk.below hb0) hb
 unfold CQ at hm
 clear hb0 hT hF hk hb
 go_enter Tryz.func53,Tryz.ntmps53
 go_upto_region 1 with fail
 generalize w.alloc (Obj.cells (au F A) 61)=W0 at *
 go_wp2_with (first|(refine af rfl 61 _ rfl _ _ rfl HL.out ?_)|fail)
 refine hm.mono ?_
 rintro e w1 ⟨s,rfl,hb1⟩
 have H1:Hid (Below w.heap.size w w1):=H0.out.trans (hb1.mono H0.out.size)
 clear hm hb1 H0 HL
 go_wp2_with fail
 refine(l6 _ 13 (by decide) w1).mono ?_
 rintro e w2 ⟨rfl,rfl⟩
 go_wp2
 go_ret
 exact⟨_,rfl,H1.out⟩
theorem Kq (w:World)(F:Fr)(A:At)(k:Option Addr)(ck:Nat)(key:List UInt8)(hT:sZ w)(hF:Seen w F A)(hn:F.n<18446744073709551616)(hk:ag w k ck key)(h16:key.length=16)(hc:bH F=true)(b:Bool)(hb:decide (oL key F=F.tag)=b):
  Calls Tryz.prog 53 #[.agg (au F A),.slice k key.length ck] w λe w'=>Oy b e/\Below w.heap.size w w':=by
 have hb0:Below w.heap.size w (w.alloc (.cells (au F A) 61)):=Go.Joins.below_alloc1 _ _
 have H0:Hid (aj (w.alloc (.cells (au F A) 61)) w.heap.size F A/\Seen (w.alloc (.cells (au F A) 61)) F A/\Below w.heap.size w (w.alloc (.cells (au F A) 61))):=⟨aj.new w F A,hF.below hb0,hb0⟩
 have HL:Hid ((Instr.loadAt 61 (.pointer (some ⟨w.heap.size,0,none⟩))).run Tryz.prog (w.alloc (.cells (au F A) 61))=.ok (.agg (au F A)) (w.alloc (.cells (au F A) 61))):=(aj.new w F A).loads
 have hm:=Km (w.alloc (.cells (au F A) 61)) F A k ck key (hT.below hb0) (hF.below hb0) hn (hk.below hb0) h16 hc
 have HB:Hid (decide (oL key F=F.tag)=b):=hb
 clear hb0 hT hF hk hn hc h16 hb
 go_enter Tryz.func53,Tryz.ntmps53
 go_upto_region 1 with fail
 generalize w.alloc (Obj.cells (au F A) 61)=W0 at *
 go_wp2_with (first|(refine af rfl 61 _ rfl _ _ rfl HL.out ?_)|fail)
 refine hm.mono ?_
 rintro e w1 ⟨d1,c1,r1,hr1,rfl,hl1,hs1,hb1⟩
 have H1:Hid (Below w.heap.size w w1):=H0.out.2.2.trans (hb1.mono H0.out.2.2.size)
 have c12:=(H0.out.1.below hb1).c12
 have hsm:=wD w1 d1 A.ta c1 A.tc r1 F.tag hs1 (H0.out.2.1.below hb1).tag
 rw[hl1,hr1.out,HB.out] at hsm
 obtain⟨tn,htn⟩:=ai F.tag.length
 rw[<-htn] at hsm c12
 clear hm hr1 hl1 hs1 hb1 H0 HL HB htn
 go_wp2_with fail
 refine hsm.mono ?_
 rintro e w2 ⟨rfl,rfl⟩
 clear hsm c12
 cases b
 ·go_wp2_with fail
  refine(l6 _ 13 (by decide) _).mono ?_
  rintro e w2 ⟨rfl,rfl⟩
  go_wp2
  go_ret
  exact⟨⟨(λh=>by cases h),(λ_=>⟨_,rfl⟩)⟩,H1.out⟩
 ·go_wp2
  go_ret
  exact⟨⟨(λ_=>rfl),(λh=>by cases h)⟩,H1.out⟩
theorem Oz (w:World)(F:Fr)(A:At)(k:Option Addr)(ck:Nat)(key:List UInt8)(hT:sZ w)(hF:Seen w F A)(hn:F.n<18446744073709551616)(hk:ag w k ck key)(b:Bool)(hb:fQ key F=b):
  Calls Tryz.prog 53 #[.agg (au F A),.slice k key.length ck] w λe w'=>Oy b e/\Below w.heap.size w w':=by
 obtain⟨t,ht⟩:∃ t,pU key F=t:=⟨_,rfl⟩
 unfold fQ at hb
 rw[ht] at hb
 cases t
 ·refine(Ko w F A k ck key hT hF hk ht).mono ?_
  rintro e w' ⟨s,he,hw⟩
  have:b=false:=by rw[<-hb];rfl
  subst this
  exact⟨⟨(λh=>by cases h),(λ_=>⟨s,he⟩)⟩,hw⟩
 ·have h2:=(xJ key F).1 ht
  exact Kq w F A k ck key hT hF hn hk h2.1 h2.2 b (by simpa using hb)
theorem Kr (w:World)(F:Fr)(A:At)(k:Option Addr)(ck:Nat)(key:List UInt8)(hT:sZ w)(hF:Seen w F A)(hn:F.n<18446744073709551616)(hk:ag w k ck key)(b:Bool)(hb:fQ key F=b):
  Calls Tryz.prog 26 #[.agg (au F A),.slice k key.length ck] w λe w'=>e=.returned (.bool b)/\Below w.heap.size w w':=by
 have hb0:Below w.heap.size w (w.alloc (.cells (au F A) 61)):=Go.Joins.below_alloc1 _ _
 have H0:Hid (Below w.heap.size w (w.alloc (.cells (au F A) 61))):=hb0
 have HL:Hid ((Instr.loadAt 61 (.pointer (some ⟨w.heap.size,0,none⟩))).run Tryz.prog (w.alloc (.cells (au F A) 61))=.ok (.agg (au F A)) (w.alloc (.cells (au F A) 61))):=(aj.new w F A).loads
 have hm:=Oz (w.alloc (.cells (au F A) 61)) F A k ck key (hT.below hb0) (hF.below hb0) hn (hk.below hb0) b hb
 clear hb0 hT hF hk hn hb
 go_enter Tryz.func26,Tryz.ntmps26
 go_upto_region 1 with fail
 generalize w.alloc (Obj.cells (au F A) 61)=W0 at *
 go_wp2_with (first|(refine af rfl 61 _ rfl _ _ rfl HL.out ?_)|fail)
 refine hm.mono ?_
 rintro e w1 ⟨⟨h1,h2⟩,hb1⟩
 have H1:Hid (Below w.heap.size w w1):=H0.out.trans (hb1.mono H0.out.size)
 clear hm hb1 H0 HL
 cases b
 ·obtain⟨s,rfl⟩:=h2 rfl
  clear h1 h2
  unfold CQ
  go_wp2
  go_ret
  exact⟨rfl,H1.out⟩
 ·obtain rfl:=h1 rfl
  clear h1 h2
  go_wp2
  go_ret
  exact⟨rfl,H1.out⟩
end Go.Proofs.YtmffplhaclnehaaGreatDoor
namespace Go.Proofs.YtmffplhaclnehaaGreatDoor
variable {c:Cf} {i e:Int}
structure Rv where
 c:Cf
 me:Int
 ep:Int
 st:Int
 ix:Int
 key:List UInt8
 b:Bs
 last:Int
def newR (c:Cf)(me:Int):Rv:=⟨c,me,-1,0,-1,[],⟨c.p.toNat,0,[]⟩,-1⟩
def gU (s:Rv)(i:Int)(k:List UInt8):Bool:=decide (0<=i)&&decide (i<=s.c.k)&&decide (k.length=16)
def rO (s:Rv)(e t i:Int)(k:List UInt8):Bool:=decide (0<=e)&&decide (e<=65535)&&decide (0<=t)&&decide (t<1048576)&&gU s i k
def fO (s:Rv)(e t i:Int)(k:List UInt8):Int:=
 if rO s e t i k=false then 1 else if e<s.ep then 10 else if s.ep<e then 0 else if t≠s.st then 11
 else if s.ix<i then (dx s.ix s.key i k:Int) else if dx i k s.ix s.key≠0 then 11 else 0
def eO (s:Rv)(e t i:Int)(k:List UInt8):Rv:=
 if rO s e t i k=false then s else if e<s.ep then s
 else if s.ep<e then { s with ep:=e,st:=t,ix:=i,key:=k,b:=mR s.b (e,0) }
 else if t≠s.st then s else if s.ix<i/\dx s.ix s.key i k=0 then { s with ix:=i,key:=k } else s
def KX (c:Cf)(st r:Int):Int:=if nC c st r=true/\mF c (r-st)=true then r-st else 0
def jS (s:Rv)(x:List UInt8)(m:Int):Int:=
 if iH x≠0 then (iH x:Int) else if (aX x).k≠1\/(aX x).f≠s.me then 1 else if s.ep<0\/(aX x).e≠s.ep then 6
 else if (aX x).r<=s.last then 10 else ic s.c s.me s.st (aX x).r m
def jy (s:Rv)(x:List UInt8)(m:Int):Int:=if jS s x m≠0 then jS s x m else fT s.b (aX x).e (KX s.c s.st (aX x).r) x
def iC (s:Rv)(x:List UInt8)(m:Int):Rv:=if jS s x m≠0 then s else { s with b:=gm s.b (aX x).e (KX s.c s.st (aX x).r) x }
def l8 (L:List (List UInt8))(k:List UInt8)(last:Int):Option Fr:=
 match (L.map aX).find? (λF=>fQ k F) with
 | none=>none
 | some F=>if F.r<=last then none else some F
def jg (s:Rv)(i:Int)(k:List UInt8):Rv×List Fr:=
 match l8 (fG s.b (s.ep,i)) k s.last with
 | none=>({ s with b:=jc s.b (s.ep,i) },[])
 | some F=>({ s with b:=jc s.b (s.ep,i),last:=F.r },[F])
def bU (k:List UInt8)(j i0:Int)(s:Rv):Nat->Rv×List Fr
 | 0=>(s,[])
 | n+1=>((jg (bU k j i0 s n).1 (i0+n) (fC k (j-(i0+n))).1).1,(bU k j i0 s n).2++(jg (bU k j i0 s n).1 (i0+n) (fC k (j-(i0+n))).1).2)
def gz (s:Rv)(e i:Int)(k:List UInt8):Int:=
 if s.ep<0\/e≠s.ep then 6 else if gU s i k=false then 1 else if i<=s.ix then 10 else (dx s.ix s.key i k:Int)
def jB (s:Rv)(i:Int)(k:List UInt8):Rv:={ s with ix:=i,key:=k }
def jw (s:Rv)(e i:Int)(k:List UInt8):Rv×List Fr:=
 if gz s e i k≠0 then (s,[]) else bU k i (s.ix+1) (jB s i k) (i-s.ix).toNat
structure Rv.ok (s:Rv):Prop where
 cfg:okB s.c=true
 me0:0<=s.me
 Yr:s.me<s.c.n
 ep:s.ep = -1\/(0<=s.ep/\s.ep<=65535/\0<=s.st/\s.st<1048576/\0<=s.ix/\s.ix<=s.c.k/\s.key.length=16)
 buf:s.b.ok
 its:∀ x∈s.b.L,x.e=s.ep/\iH x.b=0/\(aX x.b).r=s.st+x.i/\(aX x.b).f=s.me/\x.i<=s.c.k
theorem gP (h:okB c=true):1<=c.k/\c.k<=256/\1<=c.p/\c.p<=64/\1<=c.n/\c.n<=8:=by
 simp only[okB,pO,pQ,uY,lZ,Bool.and_eq_true,decide_eq_true_eq] at h
 omega
theorem aW {s:Rv}{k:List UInt8}:gU s i k=true↔0<=i/\i<=s.c.k/\k.length=16:=by simp[gU,and_assoc]
theorem rP {s:Rv}{t:Int}{k:List UInt8}:rO s e t i k=true↔0<=e/\e<=65535/\0<=t/\t<1048576/\0<=i/\i<=s.c.k/\k.length=16:=by simp[rO,gU,and_assoc]
theorem zH {me:Int}(h:okB c=true)(h0:0<=me)(h1:me<c.n):(newR c me).ok:=
 ⟨h,h0,h1,.inl rfl,⟨by have:=gP h;show 1<=c.p.toNat;omega,by have:=gP h;show c.p.toNat<=64;omega,by simp[newR],λx hx=>by simp[newR] at hx⟩,λx hx=>by simp[newR] at hx⟩
theorem Ie {s:Rv}(h:s.ok)(e t i:Int)(k:List UInt8):(eO s e t i k).ok:=by
 unfold eO
 split
 ·exact h
 ·rename_i ha
  rw[Bool.not_eq_false,rP] at ha
  split
  ·exact h
  ·split
   ·rename_i hlt
    refine⟨h.cfg,h.me0,h.Yr,.inr ⟨ha.1,ha.2.1,ha.2.2.1,ha.2.2.2.1,ha.2.2.2.2.1,ha.2.2.2.2.2.1,ha.2.2.2.2.2.2⟩,N7 h.buf _,λx hx=>?_⟩
    exfalso
    simp only[mR] at hx
    obtain⟨hx,hl⟩:=List.mem_filter.1 hx
    have:=(h.its x hx).1
    simp[l9] at hl
    omega
   ·split
    ·exact h
    ·split
     ·rename_i h1 h2
      rcases h.ep with h3|⟨h3,h4,h5,h6,h7,h8,h9⟩
      ·omega
      ·exact⟨h.cfg,h.me0,h.Yr,.inr ⟨h3,h4,h5,h6,ha.2.2.2.2.1,ha.2.2.2.2.2.1,ha.2.2.2.2.2.2⟩,h.buf,h.its⟩
     ·exact h
theorem JU (s:Rv)(e t i:Int)(k:List UInt8):(eO s e t i k).b.lost=s.b.lost:=by
 unfold eO
 repeat' split
 all_goals rfl
theorem uB {sl st r m:Int}(h:ic c sl st r m=0):nC c st r=true/\mF c (r-st)=true:=by
 unfold ic Qy at h
 repeat' split at h
 all_goals first|omega|(constructor<;>assumption)
theorem Pe {s:Bs}{x:List UInt8}{y:It}(h:y∈(gm s e i x).L):y∈s.L\/y=⟨e,i,x⟩:=by
 unfold gm at h
 split at h
 ·exact .inl h
 ·split at h
  ·exact .inl h
  ·split at h
   ·split at h
    ·exact .inl h
    ·rcases List.mem_append.1 h with h|h
     ·exact .inl ((ku _ _ _ y).2 h)
     ·exact .inr (List.mem_singleton.1 h)
   ·rcases List.mem_append.1 h with h|h
    ·exact .inl h
    ·exact .inr (List.mem_singleton.1 h)
theorem KY (s:Bs)(e i:Int)(x:List UInt8):(gm s e i x).lost<=s.lost+1:=by
 unfold gm
 repeat' split
 all_goals simp
theorem uC {s:Rv}{x:List UInt8}{m:Int}(h:jS s x m=0):iH x=0/\(aX x).k=1/\(aX x).f=s.me/\0<=s.ep/\(aX x).e=s.ep/\s.last<(aX x).r/\ic s.c s.me s.st (aX x).r m=0/\KX s.c s.st (aX x).r=(aX x).r-s.st/\1<=(aX x).r-s.st/\(aX x).r-s.st<=s.c.k:=by
 unfold jS at h
 split at h
 ·omega
 ·split at h
  ·omega
  ·split at h
   ·omega
   ·split at h
    ·omega
    ·rename_i h1 h2 h3 h4
     have h5:=uB h
     have h6:=MO h5.2
     refine⟨by omega,by omega,by omega,by omega,by omega,by omega,h,?_,h6.1,h6.2⟩
     unfold KX
     rw[if_pos h5]
theorem Ig {s:Rv}(h:s.ok)(x:List UInt8)(m:Int):(iC s x m).ok:=by
 unfold iC
 split
 ·exact h
 ·rename_i h0
  obtain⟨h1,h2,h3,h4,h5,h6,h7,h8,h9,h10⟩:=uC (Decidable.not_not.1 h0)
  refine⟨h.cfg,h.me0,h.Yr,h.ep,zT h.buf _ _ _,λy hy=>?_⟩
  rcases Pe hy with hy|rfl
  ·exact h.its y hy
  ·exact⟨h5,h1,by show (aX x).r=s.st+KX s.c s.st (aX x).r;omega,h3,by show KX s.c s.st (aX x).r<=_;show _<=s.c.k;omega⟩
theorem JX (s:Rv)(x:List UInt8)(m:Int):(iC s x m).b.lost<=s.b.lost+1:=by
 unfold iC
 split
 ·omega
 ·exact KY _ _ _ _
theorem Rv.ok.taken {s:Rv}(h:s.ok)(k:Key)(l:Int):Rv.ok { s with b:=jc s.b k,last:=l }:=
 ⟨h.cfg,h.me0,h.Yr,h.ep,NZ h.buf k,λx hx=>h.its x (List.mem_filter.1 hx).1⟩
theorem xW (s:Rv)(i:Int)(k:List UInt8):(jg s i k).1={ s with b:=jc s.b (s.ep,i),last:=(jg s i k).1.last }/\(jg s i k).2.length<=1:=by
 unfold jg
 split<;>exact⟨rfl,by simp⟩
theorem Pf {s:Rv}(h:s.ok)(i:Int)(k:List UInt8):(jg s i k).1.ok:=by
 rw[(xW s i k).1];exact h.taken _ _
theorem kG (k:List UInt8)(j i0:Int)(s:Rv):∀ n,(bU k j i0 s n).1.c=s.c/\(bU k j i0 s n).1.me=s.me/\(bU k j i0 s n).1.ep=s.ep/\(bU k j i0 s n).1.st=s.st/\(bU k j i0 s n).1.ix=s.ix/\(bU k j i0 s n).1.key=s.key/\(bU k j i0 s n).1.b.lost=s.b.lost/\(bU k j i0 s n).2.length<=n
 | 0=>⟨rfl,rfl,rfl,rfl,rfl,rfl,rfl,by simp[bU]⟩
 | n + 1 => by
   obtain ⟨h1, h2, h3, h4, h5, h6, h7, h8⟩ := kG k j i0 s n
   have h := xW (bU k j i0 s n).1 (i0 + n) (fC k (j - (i0 + n))).1
   simp only [bU]
   rw [h.1]
   refine ⟨h1, h2, h3, h4, h5, h6, h7, ?_⟩
   have := h.2
   rw [List.length_append]
   omega
theorem tC {s:Rv}(h:s.ok)(k:List UInt8)(j i0:Int):∀ n,(bU k j i0 s n).1.ok
 | 0=>h
 | n+1=>Pf (tC h k j i0 n) _ _
theorem zh {s:Rv}{k:List UInt8}(h:gz s e i k=0):0<=s.ep/\e=s.ep/\0<=i/\i<=s.c.k/\k.length=16/\s.ix<i/\dx s.ix s.key i k=0:=by
 unfold gz at h
 split at h
 ·omega
 ·split at h
  ·omega
  ·rename_i h1 h2
   rw[Bool.not_eq_false,aW] at h2
   split at h
   ·omega
   ·exact⟨by omega,by omega,h2.1,h2.2.1,h2.2.2,by omega,by omega⟩
theorem Bd {s:Rv}(h:s.ok){k:List UInt8}(h0:gz s e i k=0):(jB s i k).ok:=by
 obtain⟨h1,h2,h3,h4,h5,h6,h7⟩:=zh h0
 rcases h.ep with g|⟨g1,g2,g3,g4,g5,g6,g7⟩
 ·omega
 ·exact⟨h.cfg,h.me0,h.Yr,.inr ⟨g1,g2,g3,g4,h3,h4,h5⟩,h.buf,h.its⟩
theorem Ih {s:Rv}(h:s.ok)(e i:Int)(k:List UInt8):(jw s e i k).1.ok:=by
 unfold jw
 split
 ·exact h
 ·rename_i h0
  exact tC (Bd h (Decidable.not_not.1 h0)) _ _ _ _
theorem JV (s:Rv)(e i:Int)(k:List UInt8):(jw s e i k).1.b.lost=s.b.lost:=by
 unfold jw
 split
 ·rfl
 ·exact(kG _ _ _ _ _).2.2.2.2.2.2.1
def KO (k:List UInt8)(p:Int×List Fr)(x:List UInt8):Int×List Fr:=if p.1<(aX x).r/\fQ k (aX x)=true then ((aX x).r,p.2++[aX x]) else p
def KQ (k:List UInt8)(p:Int×List Fr)(L:List (List UInt8)):Int×List Fr:=L.foldl (KO k) p
theorem xV (k:List UInt8)(p:Int×List Fr)(x:List UInt8)(L:List (List UInt8)):KQ k p (x::L)=KQ k (KO k p x) L:=rfl
theorem O6 (k:List UInt8)(p:Int×List Fr)(L:List (List UInt8))(x:List UInt8):KQ k p (L++[x])=KO k (KQ k p L) x:=by simp[KQ,List.foldl_append]
theorem xX (k:List UInt8):∀ (L:List (List UInt8)) (p:Int×List Fr),(∀ x∈L,(aX x).r<=p.1)->KQ k p L=p
 | [],p,_=>rfl
 | x :: L, p, h => by
   have e : KO k p x = p := if_neg (by have := h x List.mem_cons_self; omega)
   rw [xV, e]
   exact xX k L p fun y hy => h y (List.mem_cons_of_mem _ hy)
def Du (L:List (List UInt8))(k:List UInt8)(p:Int×List Fr):Int×List Fr:=match l8 L k p.1 with
 | none=>p
 | some F=>(F.r,p.2++[F])
theorem Dv (k:List UInt8)(r0:Int):∀ (L:List (List UInt8)) (p:Int×List Fr),(∀ x∈L,(aX x).r=r0)->KQ k p L=Du L k p
 | [],p,_=>rfl
 | x :: L, p, h => by
   have hx := h x List.mem_cons_self
   have hL : ∀ y ∈ L, (aX y).r = r0 := fun y hy => h y (List.mem_cons_of_mem _ hy)
   rw [xV]
   cases hh : fQ k (aX x)
   · have e : KO  k p x = p := if_neg (by simp [hh])
     rw [e, Dv k r0 L p hL]
     unfold Du l8
     rw [List.map_cons, List.find?_cons_of_neg (by simp [hh])]
   · have ef : l8    (x :: L) k p.1 = if (aX   x).r ≤ p.1 then none else some (aX   x) := by
       unfold l8
       rw [List.map_cons, List.find?_cons_of_pos (by simp [hh])]
     by_cases hr : (aX x).r ≤ p.1
     · have e : KO  k p x = p := if_neg (by omega)
       rw [e, xX k L p fun y hy => by rw [hL y hy]; omega]
       unfold Du
       rw [ef, if_pos hr]
     · have e : KO  k p x = ((aX   x).r, p.2 ++ [aX   x]) := if_pos ⟨by omega, hh⟩
       rw [e, xX k L _ fun y hy => by rw [hL y hy, hx]; exact Int.le_refl _]
       unfold Du
       rw [ef, if_neg hr]
theorem Rv.ok.cell {s:Rv}(h:s.ok)(i:Int):∀ x∈fG s.b (s.ep,i),iH x=0/\(aX x).r=s.st+i/\(aX x).f=s.me:=by
 intro x hx
 obtain⟨y,hy,rfl⟩:=List.mem_map.1 hx
 obtain⟨hy,hk⟩:=List.mem_filter.1 hy
 have hk:=qg.1 hk
 obtain⟨h1,h2,h3,h4,h5⟩:=h.its y hy
 have:y.i=i:=congrArg Prod.snd hk
 exact⟨h2,by rw[h3,this],h4⟩
def cellP (s:Rv)(i:Int)(p:Int×List Fr):Rv:={ s with b:=jc s.b (s.ep,i),last:=p.1 }
theorem R4 {s:Rv}(h:s.ok)(i:Int)(k:List UInt8)(out:List Fr):((jg s i k).1,out++(jg s i k).2)=(cellP s i (KQ k (s.last,out) (fG s.b (s.ep,i))),(KQ k (s.last,out) (fG s.b (s.ep,i))).2):=by
 rw[Dv k (s.st+i) _ _ λx hx=>(h.cell i x hx).2.1]
 unfold jg Du cellP
 cases l8 (fG s.b (s.ep,i)) k s.last<;>simp
theorem zF {s:Bs}(h:s.ok)(k:Key):(fG s k).length<=64:=by
 unfold fG
 rw[List.length_map]
 exact Nat.le_trans (List.length_filter_le _ _) (Nat.le_trans h.len h.hi)
end Go.Proofs.YtmffplhaclnehaaGreatDoor
