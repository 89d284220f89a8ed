/-
  Refusals: what errors.Is, refuse and number tell of them.
  The tag of a frame under a key: what seal.tagOf tells.
  The contracts of seal.Tag, held, Holds, sealed and Seal.
-/
import Derived.Stop.Asserts
import Derived.Lib.IfaceEq
import Derived.Lib.SmallJoins
import Derived.LaidEql
import Derived.Test.YthogohkieiogiaaGreatDoorKdfB
import Derived.Test.YthogohkieiogiaaGreatDoorFrameE
namespace Go.Proofs.YthogohkieiogiaaGreatDoor
set_option maxRecDepth 20000
set_option maxHeartbeats 1600000
open Go.ChangeShapes Go.WideShapes Go.ChangeAt Go.RowKit Go.Extern.Stop Go.Stop Go.Extern
theorem is_typeOf (v:Value)(w:World):(callFunc 107 #[.iface 27 v]).run Tryz.prog w=.ok (.value (.iface 214 (.agg #[.pointer (some ⟨3,27,none⟩)]))) w:=by kernel_rfl
theorem is_comparable (w:World):(callFunc 238 #[.agg #[.pointer (some ⟨3,27,none⟩)]]).run Tryz.prog w=.ok (.value (.bool true)) w:=by kernel_rfl
theorem is_method (v:Value)(w:World):(Go.method 423 214 v "Comparable").run Tryz.prog w=.ok (238,v) w:=by kernel_rfl
theorem is_comp:(Tryz.prog.info? 27).map (·.comparable)=some true:=by kernel_rfl
theorem ref_noIs (v:Value)(xT:TypeId)(w:World):(Instr.typeAssert (.iface 181 v) xT 231 true).run Tryz.prog w=.ok (.tuple #[.nilIface,.bool false]) w:=run_typeAssert_lacksB Tryz.underlying231 (by kernel_rfl) (by kernel_rfl) v xT w
theorem ref_unwraps (v:Value)(xT:TypeId)(w:World):(Instr.typeAssert (.iface 181 v) xT 221 true).run Tryz.prog w=.ok (.tuple #[.iface 181 v,.bool true]) w:=run_typeAssert_hasB Tryz.underlying221 (by kernel_rfl) v xT w
theorem num_noIs (v:Value)(xT:TypeId)(w:World):(Instr.typeAssert (.iface 27 v) xT 231 true).run Tryz.prog w=.ok (.tuple #[.nilIface,.bool false]) w:=run_typeAssert_lacksB Tryz.underlying231 (by kernel_rfl) (by kernel_rfl) v xT w
theorem num_noUnwrap (v:Value)(xT:TypeId)(w:World):(Instr.typeAssert (.iface 27 v) xT 221 true).run Tryz.prog w=.ok (.tuple #[.nilIface,.bool false]) w:=run_typeAssert_lacksB Tryz.underlying221 (by kernel_rfl) (by kernel_rfl) v xT w
theorem num_noUnwraps (v:Value)(xT:TypeId)(w:World):(Instr.typeAssert (.iface 27 v) xT 223 true).run Tryz.prog w=.ok (.tuple #[.nilIface,.bool false]) w:=run_typeAssert_lacksB Tryz.underlying223 (by kernel_rfl) (by kernel_rfl) v xT w
theorem ref_method (v:Value)(w:World):(Go.method 423 181 v "Unwrap").run Tryz.prog w=.ok (235,v) w:=by kernel_rfl
theorem is_yes (s:ByteArray)(n:Int)(w:World):
  Calls Tryz.prog 69 #[.iface 181 (.agg #[.string s,.int .i64 n]),.iface 27 (.int .i64 n)] w λe w'=>e=.returned (.bool true)/\Below w.heap.size w w':=by
 have tT:=is_typeOf
 have cT:=is_comparable
 have mR:=is_method
 have nE:=ref_noIs
 have uW:=ref_unwraps
 have mU:=ref_method
 have hty:∀ W:World,_:=λW=>run_eql_iface_types (P:=Tryz.prog) 181 27 (.agg #[.string s,.int .i64 n]) (.int .i64 n) Tryz.underlying88 (by decide) W
 have heq:∀ W:World,(binOp .eql 88 (.iface 27 (.int .i64 n)) (.iface 27 (.int .i64 n))).run Tryz.prog W=.ok (.bool true) W:=λW=>by
  have:=Lib.run_eql_iface_int (P:=Tryz.prog) W (k:=.i64) n n Tryz.underlying88 is_comp Tryz.underlying27
  simpa using this
 go_enter Tryz.func69,Tryz.ntmps69
 go_wp2
 refine wp_loop_rounds 2 ?_
 rw[rounds_succ]
 go_wp2
 rw[rounds_succ]
 go_wp2
 go_ret
 exact⟨rfl,Go.Joins.below_alloc1 _ _⟩
theorem is_no (s:ByteArray)(n m:Int)(hne:(n==m)=false)(w:World):
  Calls Tryz.prog 69 #[.iface 181 (.agg #[.string s,.int .i64 n]),.iface 27 (.int .i64 m)] w λe w'=>e=.returned (.bool false)/\Below w.heap.size w w':=by
 have tT:=is_typeOf
 have cT:=is_comparable
 have mR:=is_method
 have nE:=ref_noIs
 have uW:=ref_unwraps
 have mU:=ref_method
 have n1:=num_noIs
 have n2:=num_noUnwrap
 have n3:=num_noUnwraps
 have hty:∀ W:World,_:=λW=>run_eql_iface_types (P:=Tryz.prog) 181 27 (.agg #[.string s,.int .i64 n]) (.int .i64 m) Tryz.underlying88 (by decide) W
 have heq:∀ W:World,(binOp .eql 88 (.iface 27 (.int .i64 n)) (.iface 27 (.int .i64 m))).run Tryz.prog W=.ok (.bool false) W:=λW=>by
  have:=Lib.run_eql_iface_int (P:=Tryz.prog) W (k:=.i64) n m Tryz.underlying88 is_comp Tryz.underlying27
  rw[hne] at this
  exact this
 clear hne
 go_enter Tryz.func69,Tryz.ntmps69
 go_wp2
 refine wp_loop_rounds 2 ?_
 rw[rounds_succ]
 go_wp2
 rw[rounds_succ]
 go_wp2
 go_ret
 exact⟨rfl,Go.Joins.below_alloc1 _ _⟩
def refV (s:ByteArray)(n:Int):Value:=.iface 181 (.agg #[.string s,.int .i64 n])
theorem refuse_none (s:ByteArray)(w:World):Calls Tryz.prog 68 #[.string s,.int .i64 0] w λe w'=>e=.returned .nilIface/\w'=w:=by
 go_enter Tryz.func68,Tryz.ntmps68
 go_wp2
 go_ret
 exact⟨rfl,rfl⟩
theorem refuse_some (s:ByteArray)(n:Int)(hn:(n==0)=false)(w:World):Calls Tryz.prog 68 #[.string s,.int .i64 n] w λe w'=>e=.returned (refV s n)/\w'=w:=by
 have HB:Hid ((Instr.build 181 #[(0,.string s),(1,.int .i64 n)]).run Tryz.prog w=.ok (.agg #[.string s,.int .i64 n]) w):=run_build w 181 _ _ (by kernel_rfl)
 go_enter Tryz.func68,Tryz.ntmps68
 go_wp2_with (first|(refine wpList_build_run rfl 181 _ rfl [(0,.string s),(1,.int .i64 n)] _ rfl HB.out ?_)|fail)
 go_ret
 exact⟨rfl,rfl⟩
theorem number_none (w:World):Calls Tryz.prog 37 #[.nilIface] w λe w'=>e=.returned (.int .i64 0)/\w'=w:=by
 go_enter Tryz.func37,Tryz.ntmps37
 go_wp2
 go_ret
 exact⟨rfl,rfl⟩
theorem number_some (s:ByteArray)(n:Nat)(h1:1<=n)(h13:n<=13)(w:World):Calls Tryz.prog 37 #[refV s (n:Int)] w λe w'=>e=.returned (.int .i64 (n:Int))/\Below w.heap.size w w':=by
 unfold refV
 go_enter Tryz.func37,Tryz.ntmps37
 go_wp2
 go_loopw [3] (λi wr=>∃ k:Nat,1<=k/\k<=n/\i=.int .i64 (k:Int)/\Below w.heap.size w wr) (λi _=>13-(intOf i).toNat)
 case atStart=>exact⟨1,Nat.le_refl _,h1,rfl,Below.refl _ _⟩
 case round=>
  obtain⟨k,hk1,hkn,rfl,hbel⟩:=hrel
  by_cases hlt:k<13
  ·by_cases hkk:k=n
   ·subst hkk
    have hc:=is_yes s (k:Int) wr
    have HB:Hid (Below w.heap.size w wr):=hbel
    clear hbel
    go_wp2_with fail
    refine hc.mono ?_
    rintro e w1 ⟨rfl,hb1⟩
    have HE:Hid (Below w.heap.size w w1):=HB.out.trans (hb1.mono HB.out.size)
    clear hc hb1 HB
    go_wp2
    go_ret
    exact⟨rfl,HE.out⟩
   ·have hc:=is_no s (n:Int) (k:Int) (by simp;omega) wr
    have HB:Hid (Below w.heap.size w wr):=hbel
    have HK:Hid (k+1<=n):=(by omega:k+1<=n)
    clear hbel
    go_wp2_with fail
    refine hc.mono ?_
    rintro e w1 ⟨rfl,hb1⟩
    have HE:Hid (Below w.heap.size w w1):=HB.out.trans (hb1.mono HB.out.size)
    clear hc hb1 HB
    go_wp2
    go_roundw
    case rel=>exact⟨k+1,by omega,HK.out,by first|go_num|(congr 1;omega),HE.out⟩
    case measure=>simp[intOf];omega
  ·obtain rfl:k=13:=by omega
   obtain rfl:n=13:=by omega
   have HB:Hid (Below w.heap.size w wr):=hbel
   clear hbel
   go_wp2
   go_ret
   exact⟨rfl,HB.out⟩
open Go.ChangeShapes Go.WideShapes Go.ChangeAt Go.RowKit
def tagL (key:List UInt8)(F:Fr):List UInt8:=(hmacL (keyOf key macN []) (coreL F)).take 8
def tagB (key:List UInt8)(F:Fr):Bool:=decide (key.length=16)&&coreB F
def tagE (key:List UInt8)(F:Fr):Int:=if tagB key F=true then 0 else 1
def sealF (key:List UInt8)(F:Fr):Fr:={ F with tag:=tagL key F }
def sealR (key:List UInt8)(F:Fr):List UInt8:=if tagB key F=true then putL (sealF key F) else []
def holdsB (key:List UInt8)(F:Fr):Bool:=tagB key F&&decide (tagL key F=F.tag)
theorem tagL_length (key:List UInt8)(F:Fr):(tagL key F).length=8:=by
 unfold tagL;rw[List.length_take,hmacL_length];rfl
theorem tagB_iff (key:List UInt8)(F:Fr):tagB key F=true↔key.length=16/\coreB F=true:=by unfold tagB;simp
theorem tagB_other (key:List UInt8)(F:Fr)(t:List UInt8):tagB key { F with tag:=t }=tagB key F:=rfl
theorem tagL_other (key:List UInt8)(F:Fr)(t:List UInt8):tagL key { F with tag:=t }=tagL key F:=rfl
theorem coreL_len (F:Fr)(hn:F.n<18446744073709551616)(hr:coreB F=true):(coreL F).length<=43:=by
 have:=core_len F hn hr
 unfold coreL;rw[packL_length];omega
theorem macP_yes (key:List UInt8)(h:key.length=16):macP key=(keyOf key macN [],0):=by
 unfold macP;rw[if_pos h];exact keyP_ok _ _ _ labels.2.2.2 (by simp) (by omega)
theorem macP_no (key:List UInt8)(h:¬ key.length=16):macP key=([],1):=by unfold macP;rw[if_neg h]
def Tabs (w:World):Prop:=FTab w/\KTab w
theorem Tabs.below {w w':World}(h:Tabs w)(hb:Below w.heap.size w w'):Tabs w':=⟨h.1.below hb,h.2.below hb⟩
theorem kmac_yes (w:World)(a:Option Addr)(ca:Nat)(key:List UInt8)(hT:Tabs w)(ha:Sees w a ca key)(h16:key.length=16):
  Calls Tryz.prog 104 #[.slice a key.length ca] w λe w'=>∃ d cd r,Hid (r=keyOf key macN [])/\e=.returned (.tuple #[.slice d r.length cd,.int .i64 0])/\Sees w' d cd r/\Below w.heap.size w w':=by
 have h:=mac_ok w a ca key hT.1 hT.2 ha
 rw[macP_yes key h16] at h
 exact h.mono λe w' ⟨d,cd,r,h1,h2,h3,h4⟩=>⟨d,cd,r,h1,h2,h3,h4⟩
theorem kmac_no (w:World)(a:Option Addr)(ca:Nat)(key:List UInt8)(hT:Tabs w)(ha:Sees w a ca key)(h16:¬ key.length=16):
  Calls Tryz.prog 104 #[.slice a key.length ca] w λe w'=>∃ d cd,e=.returned (.tuple #[.slice d 0 cd,.int .i64 1])/\Below w.heap.size w w':=by
 have h:=mac_ok w a ca key hT.1 hT.2 ha
 rw[macP_no key h16] at h
 refine h.mono λe w' ⟨d,cd,r,h1,h2,h3,h4⟩=>?_
 have hr:r=[]:=h1.out
 subst hr
 exact⟨d,cd,h2,h4⟩
def TagIs (w w':World)(e:Ending)(key:List UInt8)(F:Fr)(v:Value):Prop:=∃ d cd r,Hid (r=tagL key F)/\e=.returned (.tuple #[.slice d 8 cd,v])/\r.length=8/\Sees w' d cd r/\Below w.heap.size w w'
theorem tagOf_yes (w:World)(F:Fr)(A:At)(k:Option Addr)(ck:Nat)(key:List UInt8)(hT:Tabs w)(hF:Seen w F A)(hn:F.n<18446744073709551616)(hk:Sees w k ck key)(h16:key.length=16)(hc:coreB F=true):
  Calls Tryz.prog 67 #[.agg (frC F A),.slice k key.length ck] w λe w'=>TagIs w w' e key F .nilIface:=by
 have hb0:Below w.heap.size w (w.alloc (.cells (frC F A) 41)):=Go.Joins.below_alloc1 _ _
 have hm:=kmac_yes (w.alloc (.cells (frC F A) 41)) k ck key (hT.below hb0) (hk.below hb0) h16
 have H0:Hid (FrAt (w.alloc (.cells (frC F A) 41)) w.heap.size F A/\Below w.heap.size w (w.alloc (.cells (frC F A) 41))):=⟨FrAt.new w F A,hb0⟩
 have HT:Hid (Tabs w/\Seen w F A/\F.n<18446744073709551616/\coreB F=true):=⟨hT,hF,hn,hc⟩
 clear hb0 hT hF hn hk h16 hc
 go_enter Tryz.func67,Tryz.ntmps67
 go_upto_region 1 with fail
 generalize w.alloc (Obj.cells (frC F A) 41)=W0 at *
 go_wp2_with fail
 refine hm.mono ?_
 rintro e w1 ⟨d1,c1,r1,hr1,rfl,hs1,hb1⟩
 have hb1w:Below w.heap.size w w1:=H0.out.2.trans (hb1.mono H0.out.2.size)
 have hL:=(H0.out.1.below hb1).loads
 have hco:=core_yes w1 F A (HT.out.2.1.below hb1w) HT.out.2.2.1 HT.out.2.2.2
 have HL:Hid ((Instr.loadAt 41 (.pointer (some ⟨w.heap.size,0,none⟩))).run Tryz.prog w1=.ok (.agg (frC F A)) w1):=hL
 have H1:Hid (Below w.heap.size w w1/\Sees w1 d1 c1 r1/\r1=keyOf key macN []):=⟨hb1w,hs1,hr1.out⟩
 clear hm hr1 hs1 hb1 hb1w hL H0
 go_wp2_with (first|(refine wpList_gload_run rfl 41 _ rfl _ _ rfl HL.out ?_)|fail)
 refine hco.mono ?_
 rintro e w2 ⟨d2,c2,r2,hr2,rfl,hs2,hb2⟩
 have hb2w:Below w.heap.size w w2:=H1.out.1.trans (hb2.mono H1.out.1.size)
 have hT2:=HT.out.1.below hb2w
 have hsh:Calls Tryz.prog 106 #[.slice d1 r1.length c1,.slice d2 r2.length c2,.int .i64 8] w2 _:=hshort_ok w2 d1 c1 r1 d2 c2 r2 8 hT2.1 hT2.2 (H1.out.2.1.below hb2) hs2 (by rw[H1.out.2.2,keyOf_length];decide) (by rw[hr2.out];have:=coreL_len F HT.out.2.2.1 HT.out.2.2.2;omega) (by decide) (by decide)
 have H2:Hid (Below w.heap.size w w2/\r1=keyOf key macN []/\r2=coreL F):=⟨hb2w,H1.out.2.2,hr2.out⟩
 clear hco hr2 hs2 hb2 hb2w hT2 HL H1
 go_wp2_with fail
 refine hsh.mono ?_
 rintro e w3 ⟨d3,c3,r3,hr3,rfl,hl3,hs3,hb3,_⟩
 have H3:Hid (Hid (r3=tagL key F)/\r3.length=8/\Sees w3 d3 c3 r3/\Below w.heap.size w w3):=⟨by show r3=tagL key F;rw[hr3.out,H2.out.2.1,H2.out.2.2];rfl,hl3,hs3,H2.out.1.trans (hb3.mono H2.out.1.size)⟩
 clear hsh hr3 hl3 hs3 hb3 H2
 go_wp2_with fail
 refine(refuse_none _ w3).mono ?_
 rintro e w4 ⟨rfl,rfl⟩
 go_wp2
 go_ret2
 exact⟨d3,c3,r3,H3.out.1,rfl,H3.out.2⟩
theorem tagOf_key (w:World)(F:Fr)(A:At)(k:Option Addr)(ck:Nat)(key:List UInt8)(hT:Tabs w)(hk:Sees w k ck key)(h16:¬ key.length=16):
  Calls Tryz.prog 67 #[.agg (frC F A),.slice k key.length ck] w λe w'=>∃ s,e=.returned (.tuple #[.slice none 0 0,refV s 1])/\Below w.heap.size w w':=by
 have hb0:Below w.heap.size w (w.alloc (.cells (frC F A) 41)):=Go.Joins.below_alloc1 _ _
 have hm:=kmac_no (w.alloc (.cells (frC F A) 41)) k ck key (hT.below hb0) (hk.below hb0) h16
 have H0:Hid (Below w.heap.size w (w.alloc (.cells (frC F A) 41))):=hb0
 clear hb0 hT hk h16
 go_enter Tryz.func67,Tryz.ntmps67
 go_upto_region 1 with fail
 generalize w.alloc (Obj.cells (frC F A) 41)=W0 at *
 go_wp2_with fail
 refine hm.mono ?_
 rintro e w1 ⟨d1,c1,rfl,hb1⟩
 have H1:Hid (Below w.heap.size w w1):=H0.out.trans (hb1.mono H0.out.size)
 clear hm hb1 H0
 go_wp2_with fail
 refine(refuse_some _ 1 (by decide) w1).mono ?_
 rintro e w4 ⟨rfl,rfl⟩
 go_wp2
 go_ret2
 exact⟨_,rfl,H1.out⟩
theorem tagOf_core (w:World)(F:Fr)(A:At)(k:Option Addr)(ck:Nat)(key:List UInt8)(hT:Tabs w)(hF:Seen w F A)(hk:Sees w k ck key)(h16:key.length=16)(hc:coreB F=false):
  Calls Tryz.prog 67 #[.agg (frC F A),.slice k key.length ck] w λe w'=>∃ s,e=.returned (.tuple #[.slice none 0 0,refV s 1])/\Below w.heap.size w w':=by
 have hb0:Below w.heap.size w (w.alloc (.cells (frC F A) 41)):=Go.Joins.below_alloc1 _ _
 have hm:=kmac_yes (w.alloc (.cells (frC F A) 41)) k ck key (hT.below hb0) (hk.below hb0) h16
 have H0:Hid (FrAt (w.alloc (.cells (frC F A) 41)) w.heap.size F A/\Below w.heap.size w (w.alloc (.cells (frC F A) 41))):=⟨FrAt.new w F A,hb0⟩
 have HT:Hid (Seen w F A/\coreB F=false):=⟨hF,hc⟩
 clear hb0 hT hF hk h16 hc
 go_enter Tryz.func67,Tryz.ntmps67
 go_upto_region 1 with fail
 generalize w.alloc (Obj.cells (frC F A) 41)=W0 at *
 go_wp2_with fail
 refine hm.mono ?_
 rintro e w1 ⟨d1,c1,r1,hr1,rfl,hs1,hb1⟩
 have hb1w:Below w.heap.size w w1:=H0.out.2.trans (hb1.mono H0.out.2.size)
 have hL:=(H0.out.1.below hb1).loads
 have hco:=core_no w1 F A (HT.out.1.below hb1w) HT.out.2
 have HL:Hid ((Instr.loadAt 41 (.pointer (some ⟨w.heap.size,0,none⟩))).run Tryz.prog w1=.ok (.agg (frC F A)) w1):=hL
 have H1:Hid (Below w.heap.size w w1):=hb1w
 clear hm hr1 hs1 hb1 hb1w hL H0
 go_wp2_with (first|(refine wpList_gload_run rfl 41 _ rfl _ _ rfl HL.out ?_)|fail)
 refine hco.mono ?_
 rintro e w2 ⟨rfl,hb2⟩
 have H2:Hid (Below w.heap.size w w2):=H1.out.trans (hb2.mono H1.out.size)
 clear hco hb2 HL H1
 go_wp2_with fail
 refine(refuse_some _ 1 (by decide) w2).mono ?_
 rintro e w4 ⟨rfl,rfl⟩
 go_wp2
 go_ret2
 exact⟨_,rfl,H2.out⟩
theorem tagOf_no (w:World)(F:Fr)(A:At)(k:Option Addr)(ck:Nat)(key:List UInt8)(hT:Tabs w)(hF:Seen w F A)(hk:Sees w k ck key)(hb:tagB key F=false):
  Calls Tryz.prog 67 #[.agg (frC F A),.slice k key.length ck] w λe w'=>∃ s,e=.returned (.tuple #[.slice none 0 0,refV s 1])/\Below w.heap.size w w':=by
 by_cases h16:key.length=16
 ·have hc:coreB F=false:=by
   cases h:coreB F
   ·rfl
   ·have:=(tagB_iff key F).2 ⟨h16,h⟩
    rw[hb] at this;cases this
  exact tagOf_core w F A k ck key hT hF hk h16 hc
 ·exact tagOf_key w F A k ck key hT hk h16
def HeldIs (b:Bool)(e:Ending):Prop:=(b=true->e=.returned .nilIface)/\(b=false->∃ s,e=.returned (refV s 13))
theorem held_none (w:World)(F:Fr)(A:At)(k:Option Addr)(ck:Nat)(key:List UInt8)(hT:Tabs w)(hF:Seen w F A)(hk:Sees w k ck key)(hb:tagB key F=false):
  Calls Tryz.prog 58 #[.agg (frC F A),.slice k key.length ck] w λe w'=>∃ s,e=.returned (refV s 13)/\Below w.heap.size w w':=by
 have hb0:Below w.heap.size w (w.alloc (.cells (frC F A) 41)):=Go.Joins.below_alloc1 _ _
 have H0:Hid (Below w.heap.size w (w.alloc (.cells (frC F A) 41))):=hb0
 have HL:Hid ((Instr.loadAt 41 (.pointer (some ⟨w.heap.size,0,none⟩))).run Tryz.prog (w.alloc (.cells (frC F A) 41))=.ok (.agg (frC F A)) (w.alloc (.cells (frC F A) 41))):=(FrAt.new w F A).loads
 have hm:=tagOf_no (w.alloc (.cells (frC F A) 41)) F A k ck key (hT.below hb0) (hF.below hb0) (hk.below hb0) hb
 unfold refV at hm
 clear hb0 hT hF hk hb
 go_enter Tryz.func58,Tryz.ntmps58
 go_upto_region 1 with fail
 generalize w.alloc (Obj.cells (frC F A) 41)=W0 at *
 go_wp2_with (first|(refine wpList_gload_run rfl 41 _ rfl _ _ rfl HL.out ?_)|fail)
 refine hm.mono ?_
 rintro e w1 ⟨s,rfl,hb1⟩
 have H1:Hid (Below w.heap.size w w1):=H0.out.trans (hb1.mono H0.out.size)
 clear hm hb1 H0 HL
 go_wp2_with fail
 refine(refuse_some _ 13 (by decide) w1).mono ?_
 rintro e w2 ⟨rfl,rfl⟩
 go_wp2
 go_ret
 exact⟨_,rfl,H1.out⟩
theorem held_some (w:World)(F:Fr)(A:At)(k:Option Addr)(ck:Nat)(key:List UInt8)(hT:Tabs w)(hF:Seen w F A)(hn:F.n<18446744073709551616)(hk:Sees w k ck key)(h16:key.length=16)(hc:coreB F=true)(b:Bool)(hb:decide (tagL key F=F.tag)=b):
  Calls Tryz.prog 58 #[.agg (frC F A),.slice k key.length ck] w λe w'=>HeldIs b e/\Below w.heap.size w w':=by
 have hb0:Below w.heap.size w (w.alloc (.cells (frC F A) 41)):=Go.Joins.below_alloc1 _ _
 have H0:Hid (FrAt (w.alloc (.cells (frC F A) 41)) w.heap.size F A/\Seen (w.alloc (.cells (frC F A) 41)) F A/\Below w.heap.size w (w.alloc (.cells (frC F A) 41))):=⟨FrAt.new w F A,hF.below hb0,hb0⟩
 have HL:Hid ((Instr.loadAt 41 (.pointer (some ⟨w.heap.size,0,none⟩))).run Tryz.prog (w.alloc (.cells (frC F A) 41))=.ok (.agg (frC F A)) (w.alloc (.cells (frC F A) 41))):=(FrAt.new w F A).loads
 have hm:=tagOf_yes (w.alloc (.cells (frC F A) 41)) F A k ck key (hT.below hb0) (hF.below hb0) hn (hk.below hb0) h16 hc
 have HB:Hid (decide (tagL key F=F.tag)=b):=hb
 clear hb0 hT hF hk hn hc h16 hb
 go_enter Tryz.func58,Tryz.ntmps58
 go_upto_region 1 with fail
 generalize w.alloc (Obj.cells (frC F A) 41)=W0 at *
 go_wp2_with (first|(refine wpList_gload_run rfl 41 _ rfl _ _ rfl HL.out ?_)|fail)
 refine hm.mono ?_
 rintro e w1 ⟨d1,c1,r1,hr1,rfl,hl1,hs1,hb1⟩
 have H1:Hid (Below w.heap.size w w1):=H0.out.2.2.trans (hb1.mono H0.out.2.2.size)
 have c12:=(H0.out.1.below hb1).c12
 have hsm:=same_any w1 d1 A.ta c1 A.tc r1 F.tag hs1 (H0.out.2.1.below hb1).tag
 rw[hl1,hr1.out,HB.out] at hsm
 obtain⟨tn,htn⟩:∃ tn,tn=F.tag.length:=⟨_,rfl⟩
 rw[<-htn] at hsm c12
 clear hm hr1 hl1 hs1 hb1 H0 HL HB htn
 go_wp2_with fail
 refine hsm.mono ?_
 rintro e w2 ⟨rfl,rfl⟩
 clear hsm c12
 cases b
 ·go_wp2_with fail
  refine(refuse_some _ 13 (by decide) _).mono ?_
  rintro e w2 ⟨rfl,rfl⟩
  go_wp2
  go_ret
  exact⟨⟨(λh=>by cases h),(λ_=>⟨_,rfl⟩)⟩,H1.out⟩
 ·go_wp2
  go_ret
  exact⟨⟨(λ_=>rfl),(λh=>by cases h)⟩,H1.out⟩
theorem held_any (w:World)(F:Fr)(A:At)(k:Option Addr)(ck:Nat)(key:List UInt8)(hT:Tabs w)(hF:Seen w F A)(hn:F.n<18446744073709551616)(hk:Sees w k ck key)(b:Bool)(hb:holdsB key F=b):
  Calls Tryz.prog 58 #[.agg (frC F A),.slice k key.length ck] w λe w'=>HeldIs b e/\Below w.heap.size w w':=by
 obtain⟨t,ht⟩:∃ t,tagB key F=t:=⟨_,rfl⟩
 unfold holdsB at hb
 rw[ht] at hb
 cases t
 ·refine(held_none w F A k ck key hT hF hk ht).mono ?_
  rintro e w' ⟨s,he,hw⟩
  have:b=false:=by rw[<-hb];rfl
  subst this
  exact⟨⟨(λh=>by cases h),(λ_=>⟨s,he⟩)⟩,hw⟩
 ·have h2:=(tagB_iff key F).1 ht
  exact held_some w F A k ck key hT hF hn hk h2.1 h2.2 b (by simpa using hb)
theorem holds_any (w:World)(F:Fr)(A:At)(k:Option Addr)(ck:Nat)(key:List UInt8)(hT:Tabs w)(hF:Seen w F A)(hn:F.n<18446744073709551616)(hk:Sees w k ck key)(b:Bool)(hb:holdsB key F=b):
  Calls Tryz.prog 30 #[.agg (frC F A),.slice k key.length ck] w λe w'=>e=.returned (.bool b)/\Below w.heap.size w w':=by
 have hb0:Below w.heap.size w (w.alloc (.cells (frC F A) 41)):=Go.Joins.below_alloc1 _ _
 have H0:Hid (Below w.heap.size w (w.alloc (.cells (frC F A) 41))):=hb0
 have HL:Hid ((Instr.loadAt 41 (.pointer (some ⟨w.heap.size,0,none⟩))).run Tryz.prog (w.alloc (.cells (frC F A) 41))=.ok (.agg (frC F A)) (w.alloc (.cells (frC F A) 41))):=(FrAt.new w F A).loads
 have hm:=held_any (w.alloc (.cells (frC F A) 41)) F A k ck key (hT.below hb0) (hF.below hb0) hn (hk.below hb0) b hb
 clear hb0 hT hF hk hn hb
 go_enter Tryz.func30,Tryz.ntmps30
 go_upto_region 1 with fail
 generalize w.alloc (Obj.cells (frC F A) 41)=W0 at *
 go_wp2_with (first|(refine wpList_gload_run rfl 41 _ rfl _ _ rfl HL.out ?_)|fail)
 refine hm.mono ?_
 rintro e w1 ⟨⟨h1,h2⟩,hb1⟩
 have H1:Hid (Below w.heap.size w w1):=H0.out.trans (hb1.mono H0.out.size)
 clear hm hb1 H0 HL
 cases b
 ·obtain⟨s,rfl⟩:=h2 rfl
  clear h1 h2
  unfold refV
  go_wp2
  go_ret
  exact⟨rfl,H1.out⟩
 ·obtain rfl:=h1 rfl
  clear h1 h2
  go_wp2
  go_ret
  exact⟨rfl,H1.out⟩
end Go.Proofs.YthogohkieiogiaaGreatDoor
