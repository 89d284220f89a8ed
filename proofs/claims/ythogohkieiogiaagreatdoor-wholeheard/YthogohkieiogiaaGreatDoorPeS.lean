/-
  One node of the program, act by act; the config of the statements; awake.
-/
import Derived.Test.YthogohkieiogiaaGreatDoorPeK
import Derived.Test.YthogohkieiogiaaGreatDoorPeF
import Derived.Test.YthogohkieiogiaaGreatDoorPeD
namespace Go.Proofs.YthogohkieiogiaaGreatDoor
set_option maxRecDepth 20000
theorem eseal_right {key:List UInt8}{F:Fr}(hb:tagB key F=true):rightB (sealF key F)=true:=by
 obtain⟨_,h2⟩:=(tagB_iff key F).1 hb
 unfold rightB
 rw[show coreB (sealF key F)=coreB F from rfl,h2,show (sealF key F).tag=tagL key F from rfl,tagL_length]
 rfl
theorem eseal_get {key:List UInt8}{F:Fr}(hb:tagB key F=true)(hn:F.n<18446744073709551616):getE (sealR key F)=0/\getF (sealR key F)=sealF key F:=by
 have h:=get_put (sealF key F) hn (eseal_right hb)
 unfold sealR
 rw[if_pos hb]
 exact h
theorem eseal_holds {key:List UInt8}{F:Fr}(hb:tagB key F=true):holdsB key (sealF key F)=true:=by
 unfold holdsB sealF
 rw[tagB_other,tagL_other,hb]
 simp
structure Duet (a b:Ec):Prop where
 ao:a.ok
 bo:b.ok
 c:a.c=b.c
 ms:a.ms=b.ms
 ne:a.i≠b.i
theorem Duet.in8 {a b:Ec}(h:Duet a b):(0<=a.i/\a.i<8)/\0<=b.i/\b.i<8:=by
 have h1:=(right_of h.ao.cfg).n1
 have h2:=h.ao.node
 have h3:=h.bo.node
 rw[<-h.c] at h3
 omega
theorem Duet.keyLen {a b:Ec}(h:Duet a b):(pairK a.ms a.i b.i).length=16:=(pairK_len h.ao.ms h.in8.1 h.in8.2 h.ne).2
theorem Duet.ping {a b:Ec}(h:Duet a b)(n:Nat):tagB (pairK a.ms a.i b.i) (ecPing a.i b.i n)=true:=by
 rw[tagB_iff]
 refine⟨h.keyLen,?_⟩
 have h8:=h.in8
 have hn:=h.ne
 simp[coreB,numsB,inB,ecPing,hn]
 exact⟨decide_eq_true (by omega),decide_eq_true (by omega)⟩
theorem Duet.pong {a b:Ec}(h:Duet a b)(n:Nat)(m e st ix:Int)(key:List UInt8)(hk:key.length=16)(hm:0<=m/\m<=1099511627776)(he:0<=e/\e<=65535)(hst:0<=st/\st<=1048576)(hix:0<=ix/\ix<=256):tagB (pairK a.ms a.i b.i) (ecPong b.i a.i n m e st ix key)=true:=by
 rw[tagB_iff]
 refine⟨h.keyLen,?_⟩
 have h8:=h.in8
 have hn:=h.ne
 have h1:inB b.i 7=true:=decide_eq_true (by omega)
 have h2:inB a.i 7=true:=decide_eq_true (by omega)
 have h3:inB e 65535=true:=decide_eq_true he
 have h4:inB st 1048576=true:=decide_eq_true hst
 have h5:inB m 1099511627776=true:=decide_eq_true hm
 have h6:inB ix 256=true:=decide_eq_true hix
 have h7:inB 0 1048576=true:=by decide
 have h9:inB 0 255=true:=by decide
 simp[coreB,numsB,ecPong,h1,h2,h3,h4,h5,h6,h7,h9,hk]
 exact λe=>hn e.symm
theorem Duet.asked {a b:Ec}(h:Duet a b)(own:Int)(hT:timeB own=true)(hct:a.ct<4294967295):
  a.askE b.i own=0/\b.opE (a.askR b.i own)=0/\b.opF (a.askR b.i own)=sealF (pairK a.ms a.i b.i) (ecPing a.i b.i a.non):=by
 have hE:a.askE b.i own=0:=by
  rw[Ec.askE_zero]
  refine⟨⟨h.bo.node.1,?_,λe=>h.ne e.symm,hT⟩,hct⟩
  rw[h.c];exact h.bo.node.2
 have hx:a.askR b.i own=sealR (pairK a.ms a.i b.i) (ecPing a.i b.i a.non):=if_pos hE
 obtain⟨g1,g2⟩:=eseal_get (h.ping a.non) (Ec.non_lt h.ao hct).2
 have hO:b.opE (a.askR b.i own)=0:=by
  unfold Ec.opE
  rw[hx,g1,if_neg (by simp),g2,if_neg (by simp[sealF,ecPing])]
  have h4:holdsB (pairK b.ms (sealF (pairK a.ms a.i b.i) (ecPing a.i b.i a.non)).f b.i) (sealF (pairK a.ms a.i b.i) (ecPing a.i b.i a.non))=true:=by
   rw[<-h.ms];exact eseal_holds (h.ping a.non)
  rw[h4]
  rfl
 refine⟨hE,hO,?_⟩
 unfold Ec.opF
 rw[if_pos hO,hx,g2]
theorem Duet.replied {a b:Ec}(h:Duet a b)(hct:a.ct<4294967295)(m e st ix:Int)(key:List UInt8)(hk:key.length=16)(hm:0<=m/\m<=1099511627776)(he:0<=e/\e<=65535)(hst:0<=st/\st<=1048576)(hix:0<=ix/\ix<=256)(P:Fr)(hP:P=sealF (pairK a.ms a.i b.i) (ecPing a.i b.i a.non))(a1:Ec)(h1:a1.ms=a.ms/\a1.i=a.i):
  b.repE P m e st ix key=0/\a1.opE (b.repR P m e st ix key)=0/\a1.opF (b.repR P m e st ix key)=sealF (pairK a.ms a.i b.i) (ecPong b.i a.i a.non m e st ix key):=by
 have hr:b.repB P=true:=by
  unfold Ec.repB
  rw[hP,eseal_right (h.ping a.non)]
  simp[sealF,ecPing]
 have hK:pairK b.ms P.f b.i=pairK a.ms a.i b.i:=by rw[hP,<-h.ms];rfl
 have hF:b.repF P m e st ix key=ecPong b.i a.i a.non m e st ix key:=by rw[hP];rfl
 have ht:=h.pong a.non m e st ix key hk hm he hst hix
 have hE:b.repE P m e st ix key=0:=by
  unfold Ec.repE
  rw[if_pos hr,hK,hF]
  exact if_pos ht
 have hR:b.repR P m e st ix key=sealR (pairK a.ms a.i b.i) (ecPong b.i a.i a.non m e st ix key):=by
  unfold Ec.repR
  rw[if_pos hr,hK,hF]
 obtain⟨g1,g2⟩:=eseal_get ht (Ec.non_lt h.ao hct).2
 have hO:a1.opE (b.repR P m e st ix key)=0:=by
  unfold Ec.opE
  rw[hR,g1,if_neg (by simp),g2,h1.2,if_neg (by simp[sealF,ecPong])]
  have h4:holdsB (pairK a1.ms (sealF (pairK a.ms a.i b.i) (ecPong b.i a.i a.non m e st ix key)).f a.i) (sealF (pairK a.ms a.i b.i) (ecPong b.i a.i a.non m e st ix key))=true:=by
   rw[h1.1,show (sealF (pairK a.ms a.i b.i) (ecPong b.i a.i a.non m e st ix key)).f=b.i from rfl,pairK_comm a.ms b.i a.i]
   exact eseal_holds ht
  rw[h4]
  rfl
 refine⟨hE,hO,?_⟩
 unfold Ec.opF
 rw[if_pos hO,hR,g2]
theorem Duet.heard {a b:Ec}(h:Duet a b)(own:Int)(hT:timeB own=true)(hct:a.ct<4294967295)(m e st ix:Int)(key:List UInt8)(hk:key.length=16)(hm:0<=m/\m<=1099511627776)(he:0<=e/\e<=65535)(hst:0<=st/\st<=1048576)(hix:0<=ix/\ix<=256)(Q:Fr)(hQ:Q=sealF (pairK a.ms a.i b.i) (ecPong b.i a.i a.non m e st ix key))(now:Int)(hN:timeB now=true):
  (a.askV b.i own).heE Q now = (if now < own then 6 else if a.c.v < now - own then 12 else 0)
    ∧ (a.askV b.i own).heA Q now = (if (a.askV b.i own).heE Q now = 0 then ⟨b.i, m - now, m + mostN (now - own) (a.c.r + a.c.l) - now, e, st, ix, key⟩ else An.zero) := by
 have hE:=(h.asked own hT hct).1
 have hV:a.askV b.i own={ a with ct:=a.ct+1,ws:=a.ws.set b.i.toNat (some (a.non,own)) }:=if_pos hE
 have hB:(a.askV b.i own).heB Q now=true:=by
  unfold Ec.heB
  rw[hQ,eseal_right (h.pong a.non m e st ix key hk hm he hst hix),hN,hV]
  have:=h.bo.node
  simp[sealF,ecPong,h.c,this]
 have hA:(a.askV b.i own).at? Q=some (a.non,own):=by
  unfold Ec.at?
  rw[hV,hQ]
  show ((a.ws.set b.i.toNat (some (a.non,own)))[b.i.toNat]?).join=_
  have:=h.bo.node
  rw[List.getElem?_set_self (by rw[h.ao.num,h.c];omega)]
  rfl
 have hH:(a.askV b.i own).heE Q now=(if now<own then 6 else if a.c.v<now-own then 12 else 0):=by
  unfold Ec.heE
  rw[if_pos hB,hA]
  have e1:a.non=Q.n:=by rw[hQ];rfl
  have e2:(a.askV b.i own).c.v=a.c.v:=by rw[hV]
  simp only[e2,e1]
  simp
 refine⟨hH,?_⟩
 unfold Ec.heA
 rw[hA]
 have e2:(a.askV b.i own).c=a.c:=by rw[hV]
 simp only[e2]
 rw[hQ]
 rfl
end Go.Proofs.YthogohkieiogiaaGreatDoor
namespace Go.Proofs.YthogohkieiogiaaGreatDoor
set_option maxRecDepth 20000
set_option maxHeartbeats 3200000
open Go.ChangeShapes Go.WideShapes Go.ChangeAt Go.RowKit
theorem ppongbuild (U:World)(i j:Int)(n:Nat)(m e st ix:Int)(k:Option Addr)(ck:Nat)(key:List UInt8)(hi:i=0):(Instr.build 41 #[(0,.int .i64 3),(2,.int .i64 j),(6,.int .u64 (n:Int)),(7,.int .i64 m),(3,.int .i64 e),(4,.int .i64 st),(9,.int .i64 ix),(10,.slice k key.length ck)]).run Tryz.prog U=.ok (.agg (frC (ecPong i j n m e st ix key) ⟨k,ck,none,0,none,0⟩)) U:=by
 subst hi
 exact run_build U 41 _ _ (by kernel_rfl)
theorem pereply_at (w:World)(R:Nat)(s:Ec)(ma:Option Addr)(mc:Nat)(h:PEAll w R s ma mc)(hm:s.ms.length=16)(hT:Tabs w)(F:Fr)(A:At)(hF:Seen w F A)(hn:F.n<18446744073709551616)(m ep st ix:Int)(k:Option Addr)(ck:Nat)(key:List UInt8)(hk:Sees w k ck key)(l:List UInt8)(n:Int)(hL:l=s.repR F m ep st ix key)(hN:n=s.repE F m ep st ix key):
  Calls Tryz.prog 11 #[.pointer (some ⟨R,0,none⟩),.agg (frC F A),.int .i64 m,.int .i64 ep,.int .i64 st,.int .i64 ix,.slice k key.length ck] w λe w'=>FTells w w' e l n:=by
 obtain⟨W,hW⟩:∃ W,W=w.alloc (.cells (frC F A) 41):=⟨_,rfl⟩
 have hb0:Below w.heap.size w W:=by rw[hW];exact Go.Joins.below_alloc1 _ _
 have hfr:FrAt W w.heap.size F A:=by rw[hW];exact FrAt.new w F A
 have H0:Hid (PEAll W R s ma mc/\FrAt W w.heap.size F A/\Below w.heap.size w W/\Seen W F A/\Sees W k ck key/\F.n<18446744073709551616/\W=w.alloc (.cells (frC F A) 41)/\Tabs W):=⟨h.below hb0,hfr,hb0,hF.below hb0,hk.below hb0,hn,hW,hT.below hb0⟩
 have HLN:Hid (l=s.repR F m ep st ix key/\n=s.repE F m ep st ix key):=⟨hL,hN⟩
 have KM:=pemade_ok W R s ma mc H0.out.1.at' hm
 have KF:Calls Tryz.prog 29 #[.pointer (some ⟨R,0,none⟩),.agg (frC F A),.int .i64 2] W λe w'=>e=.returned (.bool (s.repB F))/\Below W.heap.size W w':=pefor_ok W R s ma mc H0.out.1.at' F A H0.out.2.2.2.1 2
 have HL0:Hid ((Instr.loadAt 41 (.pointer (some ⟨w.heap.size,0,none⟩))).run Tryz.prog W=.ok (.agg (frC F A)) W):=H0.out.2.1.loads
 obtain⟨kl,hkl⟩:∃ kl,kl=key.length:=⟨_,rfl⟩
 have HKL:Hid (kl=key.length):=hkl
 rw[<-hkl]
 clear h hF hn hk hb0 hfr hL hN hkl hm hT hW
 go_enter Tryz.func11,Tryz.ntmps11
 go_upto_region 1 with fail
 rw[<-H0.out.2.2.2.2.2.2.1]
 go_wp2_with fail
 refine KM.mono ?_
 rintro e w1 ⟨rfl,hw1⟩
 rw[hw1]
 clear hw1 w1 KM
 by_cases hr:s.repB F=true
 ·rw[hr] at KF
  have HG:Hid (l=sealR (pairK s.ms F.f s.i) (s.repF F m ep st ix key)/\n=tagE (pairK s.ms F.f s.i) (s.repF F m ep st ix key)):=⟨HLN.out.1.trans (if_pos hr),HLN.out.2.trans (if_pos hr)⟩
  clear hr
  go_wp2_with (first|(refine wpList_gload_run rfl 41 _ rfl _ _ rfl HL0.out ?_)|fail)
  refine KF.mono ?_
  rintro e V ⟨rfl,hbV⟩
  have HBV:Hid (Below W.heap.size W V):=hbV
  have e1:=(H0.out.2.1.below hbV).c1
  have e6:=(H0.out.2.1.below hbV).c6
  have HBF:Hid (∀ U,(Instr.build 41 #[(0,.int .i64 3),(2,.int .i64 F.f),(6,.int .u64 (F.n:Int)),(7,.int .i64 m),(3,.int .i64 ep),(4,.int .i64 st),(9,.int .i64 ix),(10,.slice k kl ck)]).run Tryz.prog U=.ok (.agg (frC (ecPong 0 F.f F.n m ep st ix key) ⟨k,ck,none,0,none,0⟩)) U):=λU=>by rw[HKL.out];exact ppongbuild U 0 F.f F.n m ep st ix k ck key rfl
  have KS:=pesealed_ok V R s ma mc (H0.out.1.below hbV) (H0.out.2.2.2.2.2.2.2.below hbV) (ecPong 0 F.f F.n m ep st ix key) ⟨k,ck,none,0,none,0⟩ ⟨H0.out.2.2.2.2.1.below hbV,Sees.nil' _,Sees.nil' _⟩ H0.out.2.2.2.2.2.1 l n (by rw[HG.out.1,pairK_comm s.ms F.f s.i];rfl) (by rw[HG.out.2,pairK_comm s.ms F.f s.i];rfl)
  clear hbV KF
  go_wp2_with (first|(refine wpList_build_run rfl 41 _ rfl [(0,.int .i64 3),(2,.int .i64 F.f),(6,.int .u64 (F.n:Int)),(7,.int .i64 m),(3,.int .i64 ep),(4,.int .i64 st),(9,.int .i64 ix),(10,.slice k kl ck)] _ rfl (HBF.out _) ?_)|fail)
  refine KS.mono ?_
  rintro e w5 ⟨d5,c5,rfl,hs5,hb5⟩
  have H5:Hid (Sees w5 d5 c5 l/\Below w.heap.size w w5):=⟨hs5,H0.out.2.2.1.trans ((HBV.out.trans (hb5.mono HBV.out.size)).mono H0.out.2.2.1.size)⟩
  clear hs5 hb5 KS
  go_wp2
  go_ret2
  exact⟨d5,c5,rfl,H5.out⟩
 ·have hr2:s.repB F=false:=Bool.eq_false_iff.2 hr
  rw[hr2] at KF
  have HG:Hid (l=[]/\n=1):=⟨HLN.out.1.trans (if_neg hr),HLN.out.2.trans (if_neg hr)⟩
  clear hr hr2
  go_wp2_with (first|(refine wpList_gload_run rfl 41 _ rfl _ _ rfl HL0.out ?_)|fail)
  refine KF.mono ?_
  rintro e V ⟨rfl,hbV⟩
  have HE:Hid (Below w.heap.size w V):=H0.out.2.2.1.trans (hbV.mono H0.out.2.2.1.size)
  clear hbV KF
  go_wp2
  go_ret2
  rw[HG.out.1,HG.out.2]
  exact⟨none,0,rfl,Sees.nil' _,HE.out⟩
theorem pereply_any (w:World)(R:Nat)(s:Ec)(ma:Option Addr)(mc:Nat)(h:PEAll w R s ma mc)(hm:s.ms.length=16)(hT:Tabs w)(F:Fr)(A:At)(hF:Seen w F A)(hn:F.n<18446744073709551616)(m ep st ix:Int)(k:Option Addr)(ck:Nat)(key:List UInt8)(hk:Sees w k ck key):
  Calls Tryz.prog 11 #[.pointer (some ⟨R,0,none⟩),.agg (frC F A),.int .i64 m,.int .i64 ep,.int .i64 st,.int .i64 ix,.slice k key.length ck] w λe w'=>FTells w w' e (s.repR F m ep st ix key) (s.repE F m ep st ix key):=
 pereply_at w R s ma mc h hm hT F A hF hn m ep st ix k ck key hk _ _ rfl rfl
end Go.Proofs.YthogohkieiogiaaGreatDoor
namespace Go.Proofs.YthogohkieiogiaaGreatDoor
set_option maxRecDepth 20000
open Go.ChangeShapes Go.WideShapes Go.ChangeAt Go.RowKit
structure ESolo (w0 w:World)(R:Nat)(s:Ec)(ma:Option Addr)(mc:Nat):Prop where
 all:PEAll w R s ma mc
 ok:s.ok
 tab:Tabs w
 old:w0.heap.size<=R
 two:3<=w0.heap.size
 bel:Below w0.heap.size w0 w
theorem ESolo.below {w0 w w':World}{R:Nat}{s:Ec}{ma:Option Addr}{mc:Nat}(h:ESolo w0 w R s ma mc)(hb:Below w.heap.size w w'):ESolo w0 w' R s ma mc:=
 ⟨h.all.below hb,h.ok,h.tab.below hb,h.old,h.two,h.bel.trans (hb.mono h.bel.size)⟩
theorem ESolo.step {w0 w w':World}{R:Nat}{s t:Ec}{ma:Option Addr}{mc:Nat}(h:ESolo w0 w R s ma mc)(ha:Apart (λk=>k=R) w w')(pa:PEAll w' R t ma mc)(ht:t.ok):ESolo w0 w' R t ma mc:=
 ⟨pa,ht,tabs_apart h.tab ha (λk hk=>by have:=h.old;have:=h.two;omega),h.old,h.two,ha.below h.bel (λk hk=>by have:=h.old;omega) h.bel.size⟩
theorem ESolo.other {w0 w w':World}{R Q:Nat}{s t:Ec}{ma mb:Option Addr}{mc md:Nat}(h:ESolo w0 w R s ma mc)(g:ESolo w0 w Q t mb md)(ha:Apart (λk=>k=R) w w')(hne:Q≠R):ESolo w0 w' Q t mb md:=
 ⟨⟨(ha.block _ g.all.at'.lt hne).trans g.all.at',h.all.at'.aside ha g.all.ms⟩,g.ok,tabs_apart g.tab ha (λk hk=>by have:=h.old;have:=h.two;omega),g.old,g.two,ha.below g.bel (λk hk=>by have:=h.old;omega) g.bel.size⟩
theorem ESolo.newRow (w0 w:World)(h2:3<=w0.heap.size)(hT:Tabs w)(hb:Below w0.heap.size w0 w)(c:Cf)(a:Option Addr)(ca:Nat)(ms:List UInt8)(i inc:Int)(ha:Sees w a ca ms)(h:ecB c ms i inc=true):Calls Tryz.prog 5 #[.agg (cfC c),.slice a ms.length ca,.int .i64 i,.int .i64 inc] w λe w'=>∃ R d cd,e=.returned (.tuple #[.pointer (some ⟨R,0,none⟩),.int .i64 0])/\ESolo w0 w' R (ecNew c ms i inc) d cd/\w.heap.size<=R/\Below w.heap.size w w'/\U8Row w' d:=by
 refine(penew_row w c a ca ms i inc ha h).mono ?_
 rintro e w' ⟨R,d,cd,rfl,hR,hA,hbl,hrw⟩
 exact⟨R,d,cd,rfl,⟨hA,ecNew_ok h,hT.below hbl,by have:=hb.size;omega,h2,hb.trans (hbl.mono hb.size)⟩,hR,hbl,hrw⟩
theorem ESolo.new (w0 w:World)(h2:3<=w0.heap.size)(hT:Tabs w)(hb:Below w0.heap.size w0 w)(c:Cf)(a:Option Addr)(ca:Nat)(ms:List UInt8)(i inc:Int)(ha:Sees w a ca ms)(h:ecB c ms i inc=true):Calls Tryz.prog 5 #[.agg (cfC c),.slice a ms.length ca,.int .i64 i,.int .i64 inc] w λe w'=>∃ R d cd,e=.returned (.tuple #[.pointer (some ⟨R,0,none⟩),.int .i64 0])/\ESolo w0 w' R (ecNew c ms i inc) d cd/\w.heap.size<=R/\Below w.heap.size w w':=(ESolo.newRow w0 w h2 hT hb c a ca ms i inc ha h).mono λ_ _ ⟨R,d,cd,h1,h3,h4,h5,_⟩=>⟨R,d,cd,h1,h3,h4,h5⟩
theorem Ec.askE_cases (s:Ec)(jj now:Int):s.askE jj now=0\/s.askE jj now=1\/s.askE jj now=9:=by
 unfold Ec.askE
 split
 ·split
  ·exact .inr (.inr rfl)
  ·exact .inl rfl
 ·exact .inr (.inl rfl)
theorem ESolo.ask {w0 w:World}{R:Nat}{s:Ec}{ma:Option Addr}{mc:Nat}(h:ESolo w0 w R s ma mc)(jj now:Int):
  Calls Tryz.prog 9 #[.pointer (some ⟨R,0,none⟩),.int .i64 jj,.int .i64 now] w λe w'=>∃ d cd,e=.returned (.tuple #[.slice d (s.askR jj now).length cd,.int .i64 (s.askE jj now)])/\Sees w' d cd (s.askR jj now)/\ESolo w0 w' R (s.askV jj now) ma mc/\Apart (λk=>k=R) w w':=by
 rcases s.askE_cases jj now with hE|hE|hE
 ·rw[hE]
  refine(peask_ok w R s ma mc h.all h.ok h.tab (by have:=h.old;have:=h.two;omega) jj now hE).mono ?_
  rintro e w' ⟨d,cd,rfl,hs,hp,ha⟩
  exact⟨d,cd,rfl,hs,h.step ha hp (Ec.askV_ok h.ok jj now),ha⟩
 ·have e1:s.askR jj now=[]:=by unfold Ec.askR;rw[hE];rfl
  have e2:s.askV jj now=s:=by unfold Ec.askV;rw[hE];rfl
  rw[hE,e1,e2]
  refine(peask_no w R s ma mc h.all.at' h.ok.ms jj now hE).mono ?_
  rintro e w' ⟨rfl,rfl⟩
  exact⟨none,0,rfl,Sees.nil' _,h,Apart.refl _ _⟩
 ·have e1:s.askR jj now=[]:=by unfold Ec.askR;rw[hE];rfl
  have e2:s.askV jj now=s:=by unfold Ec.askV;rw[hE];rfl
  rw[hE,e1,e2]
  refine(peask_full w R s ma mc h.all.at' h.ok jj now hE).mono ?_
  rintro e w' ⟨rfl,rfl⟩
  exact⟨none,0,rfl,Sees.nil' _,h,Apart.refl _ _⟩
theorem ESolo.hear {w0 w:World}{R:Nat}{s:Ec}{ma:Option Addr}{mc:Nat}(h:ESolo w0 w R s ma mc)(F:Fr)(A:At)(hF:Seen w F A)(now:Int):
  Calls Tryz.prog 12 #[.pointer (some ⟨R,0,none⟩),.agg (frC F A),.int .i64 now] w λe w'=>∃ a c,e=.returned (.tuple #[.agg (anC (s.heA F now) a c),.int .i64 (s.heE F now)])/\Sees w' a c (s.heA F now).key/\ESolo w0 w' R (s.heV F now) ma mc/\Apart (λk=>k=R) w w':=by
 refine(pehear_any w R s ma mc h.all h.ok F A hF now).mono ?_
 rintro e w' ⟨a,c,rfl,hs,hp,ha⟩
 exact⟨a,c,rfl,hs,h.step ha hp (Ec.heV_ok h.ok F now),ha⟩
theorem ESolo.opened {w0 w:World}{R:Nat}{s:Ec}{ma:Option Addr}{mc:Nat}(h:ESolo w0 w R s ma mc)(x:Option Addr)(cx:Nat)(l:List UInt8)(hx:Sees w x cx l)(hl:l.length<=140737488351232):
  Calls Tryz.prog 10 #[.pointer (some ⟨R,0,none⟩),.slice x l.length cx] w λe w'=>Got w w' e (s.opF l) (s.opE l):=peopen_any w R s ma mc h.all h.ok.ms h.tab x cx l hx hl
theorem ESolo.reply {w0 w:World}{R:Nat}{s:Ec}{ma:Option Addr}{mc:Nat}(h:ESolo w0 w R s ma mc)(F:Fr)(A:At)(hF:Seen w F A)(hn:F.n<18446744073709551616)(m ep st ix:Int)(k:Option Addr)(ck:Nat)(key:List UInt8)(hk:Sees w k ck key):
  Calls Tryz.prog 11 #[.pointer (some ⟨R,0,none⟩),.agg (frC F A),.int .i64 m,.int .i64 ep,.int .i64 st,.int .i64 ix,.slice k key.length ck] w λe w'=>FTells w w' e (s.repR F m ep st ix key) (s.repE F m ep st ix key):=pereply_any w R s ma mc h.all h.ok.ms h.tab F A hF hn m ep st ix k ck key hk
theorem eping_len {key:List UInt8}{i jj:Int}{n:Nat}(hb:tagB key (ecPing i jj n)=true):(sealR key (ecPing i jj n)).length=21:=by
 unfold sealR
 rw[if_pos hb]
 have h:(putL (sealF key (ecPing i jj n))).length=(packL (coreBits (sealF key (ecPing i jj n))++bitsOf (tagL key (ecPing i jj n)))).length+3:=(fix_take _).1
 rw[h,packL_length,List.length_append,bitsOf_length,tagL_length]
 simp[coreBits,kindBits,pingBits,sealF,ecPing,bitsN_length]
theorem made16 (w:World):∃ w',(Instr.makeSlice 22 (.int .i64 16) (.int .i64 16)).run Tryz.prog w=.ok (.slice (some ⟨w.heap.size,0,none⟩) 16 16) w'/\Sees w' (some ⟨w.heap.size,0,none⟩) 16 (List.replicate 16 0)/\Below w.heap.size w w':=by
 obtain⟨i5,hi,hz0,hz1,hz2⟩:=info_parts Tryz.info5
 obtain⟨w',hrun,hown,hgrow⟩:=run_make_full (P:=Tryz.prog) w w.heap.size 22 5 i5 (.int .u8 0) 1 Tryz.underlying22 hi hz0 hz1 .i64 .i64 16 (by rw[hz2];omega) (by unfold maxLen;omega) (Nat.le_refl _)
 have ho:w'.ownsRow w.heap.size 5 1 (.slice (some ⟨w.heap.size,0,none⟩) 16 16) 16 ((List.replicate 16 (0:UInt8)).map cellOf):=by rw[<-made_bytes];exact hown
 obtain⟨d,cd,hv,hs⟩:=Sees.of_own ho
 simp only[Value.slice.injEq] at hv
 rw[<-hv.1,<-hv.2.2] at hs
 exact⟨w',hrun,hs,(Below.refl _ _).grown hgrow (Nat.le_refl _) (by intro k h;cases h)⟩
theorem op_make_run {P:Program}{w w':World}{o:Oper}{a:Act}{K:Act->World->Prop}{Q:Exit->Act->World->Prop}(t:TypeId)(x y:Operand)(ho:o.op=.makeSlice t x y)(v u r:Value)(hx:a.eval x=v)(hy:a.eval y=u)(hrun:(Instr.makeSlice t v u).run P w=.ok r w')(h:K (a.put o.dst r) w'):Oper.wp P o a w K Q:=by
 unfold Oper.wp execOp
 simp only[ho,hx,hy,Sem.run_bind,hrun,Result.andThen_ok,Sem.run_pure]
 exact h
theorem op_make16 {w:World}{o:Oper}{a:Act}{K:Act->World->Prop}{Q:Exit->Act->World->Prop}(x y:Operand)(ho:o.op=.makeSlice 22 x y)(hx:a.eval x=.int .i64 16)(hy:a.eval y=.int .i64 16)(h:∀ w',Sees w' (some ⟨w.heap.size,0,none⟩) 16 (List.replicate 16 0)->Below w.heap.size w w'->K (a.put o.dst (.slice (some ⟨w.heap.size,0,none⟩) 16 16)) w'):Oper.wp Tryz.prog o a w K Q:=by
 obtain⟨w',hrun,h1,h2⟩:=made16 w
 exact op_make_run 22 x y ho _ _ _ hx hy hrun (h w' h1 h2)
theorem pn_laid {W:World}{x:An}{a:Option Addr}{c:Nat}(hs:Sees W a c x.key):∃ W',(Instr.storeAt 48 (.pointer (some ⟨W.heap.size,0,none⟩)) (.agg (anC x a c))).run Tryz.prog (W.alloc (.cells (anC An.zero none 0) 48))=.ok () W'/\PnAt W' W.heap.size x a c/\Sees W' a c x.key/\Below W.heap.size W W':=by
 have hb:Below W.heap.size W (W.alloc (.cells (anC An.zero none 0) 48)):=Go.Joins.below_alloc1 _ _
 obtain⟨X,hst,hX,hs',aX⟩:=pn_stored (PnAt.new W An.zero none 0) x a c (hs.below hb)
 exact⟨X,hst,hX,hs',aX.below hb (λk hk=>by omega) hb.size⟩
end Go.Proofs.YthogohkieiogiaaGreatDoor
