/-
  The program's Reply.
-/
import Derived.Test.YtahnbljbhfpldaaGreatDoorPeC
namespace Go.Proofs.YtahnbljbhfpldaaGreatDoor
set_option maxRecDepth 20000
set_option maxHeartbeats 3200000
open Go.ChangeShapes Go.WideShapes Go.ChangeAt Go.RowKit
theorem ppongbuild (U:World)(i j:Int)(n:Nat)(m e st ix:Int)(k:Option Addr)(ck:Nat)(key:List UInt8)(hi:i=0):(Instr.build 40 #[(0,.int .i64 3),(2,.int .i64 j),(6,.int .u64 (n:Int)),(7,.int .i64 m),(3,.int .i64 e),(4,.int .i64 st),(9,.int .i64 ix),(10,.slice k key.length ck)]).run Tryz.prog U=.ok (.agg (frC (ecPong i j n m e st ix key) ⟨k,ck,none,0,none,0⟩)) U:=by
 subst hi
 exact run_build U 40 _ _ (by kernel_rfl)
theorem pereply_at (w:World)(R:Nat)(s:Ec)(ma:Option Addr)(mc:Nat)(h:PEAll w R s ma mc)(hm:s.ms.length=16)(hT:Tabs w)(F:Fr)(A:At)(hF:Seen w F A)(hn:F.n<18446744073709551616)(m ep st ix:Int)(k:Option Addr)(ck:Nat)(key:List UInt8)(hk:Sees w k ck key)(l:List UInt8)(n:Int)(hL:l=s.repR F m ep st ix key)(hN:n=s.repE F m ep st ix key):
  Calls Tryz.prog 15 #[.pointer (some ⟨R,0,none⟩),.agg (frC F A),.int .i64 m,.int .i64 ep,.int .i64 st,.int .i64 ix,.slice k key.length ck] w λe w'=>FTells w w' e l n:=by
 obtain⟨W,hW⟩:∃ W,W=w.alloc (.cells (frC F A) 40):=⟨_,rfl⟩
 have hb0:Below w.heap.size w W:=by rw[hW];exact Go.Joins.below_alloc1 _ _
 have hfr:FrAt W w.heap.size F A:=by rw[hW];exact FrAt.new w F A
 have H0:Hid (PEAll W R s ma mc/\FrAt W w.heap.size F A/\Below w.heap.size w W/\Seen W F A/\Sees W k ck key/\F.n<18446744073709551616/\W=w.alloc (.cells (frC F A) 40)/\Tabs W):=⟨h.below hb0,hfr,hb0,hF.below hb0,hk.below hb0,hn,hW,hT.below hb0⟩
 have HLN:Hid (l=s.repR F m ep st ix key/\n=s.repE F m ep st ix key):=⟨hL,hN⟩
 have KM:=pemade_ok W R s ma mc H0.out.1.at' hm
 have KF:Calls Tryz.prog 38 #[.pointer (some ⟨R,0,none⟩),.agg (frC F A),.int .i64 2] W λe w'=>e=.returned (.bool (s.repB F))/\Below W.heap.size W w':=pefor_ok W R s ma mc H0.out.1.at' F A H0.out.2.2.2.1 2
 have HL0:Hid ((Instr.loadAt 40 (.pointer (some ⟨w.heap.size,0,none⟩))).run Tryz.prog W=.ok (.agg (frC F A)) W):=H0.out.2.1.loads
 obtain⟨kl,hkl⟩:∃ kl,kl=key.length:=⟨_,rfl⟩
 have HKL:Hid (kl=key.length):=hkl
 rw[<-hkl]
 clear h hF hn hk hb0 hfr hL hN hkl hm hT hW
 go_enter Tryz.func15,Tryz.ntmps15
 go_upto_region 1 with fail
 rw[<-H0.out.2.2.2.2.2.2.1]
 go_wp2_with fail
 refine KM.mono ?_
 rintro e w1 ⟨rfl,hw1⟩
 rw[hw1]
 clear hw1 w1 KM
 by_cases hr:s.repB F=true
 ·rw[hr] at KF
  have HG:Hid (l=sealR (pairK s.ms F.f s.i) (s.repF F m ep st ix key)/\n=tagE (pairK s.ms F.f s.i) (s.repF F m ep st ix key)):=⟨HLN.out.1.trans (if_pos hr),HLN.out.2.trans (if_pos hr)⟩
  clear hr
  go_wp2_with (first|(refine wpList_gload_run rfl 40 _ rfl _ _ rfl HL0.out ?_)|fail)
  refine KF.mono ?_
  rintro e V ⟨rfl,hbV⟩
  have HBV:Hid (Below W.heap.size W V):=hbV
  have e1:=(H0.out.2.1.below hbV).c1
  have e6:=(H0.out.2.1.below hbV).c6
  have HBF:Hid (∀ U,(Instr.build 40 #[(0,.int .i64 3),(2,.int .i64 F.f),(6,.int .u64 (F.n:Int)),(7,.int .i64 m),(3,.int .i64 ep),(4,.int .i64 st),(9,.int .i64 ix),(10,.slice k kl ck)]).run Tryz.prog U=.ok (.agg (frC (ecPong 0 F.f F.n m ep st ix key) ⟨k,ck,none,0,none,0⟩)) U):=λU=>by rw[HKL.out];exact ppongbuild U 0 F.f F.n m ep st ix k ck key rfl
  have KS:=pesealed_ok V R s ma mc (H0.out.1.below hbV) (H0.out.2.2.2.2.2.2.2.below hbV) (ecPong 0 F.f F.n m ep st ix key) ⟨k,ck,none,0,none,0⟩ ⟨H0.out.2.2.2.2.1.below hbV,Sees.nil' _,Sees.nil' _⟩ H0.out.2.2.2.2.2.1 l n (by rw[HG.out.1,pairK_comm s.ms F.f s.i];rfl) (by rw[HG.out.2,pairK_comm s.ms F.f s.i];rfl)
  clear hbV KF
  go_wp2_with (first|(refine wpList_build_run rfl 40 _ rfl [(0,.int .i64 3),(2,.int .i64 F.f),(6,.int .u64 (F.n:Int)),(7,.int .i64 m),(3,.int .i64 ep),(4,.int .i64 st),(9,.int .i64 ix),(10,.slice k kl ck)] _ rfl (HBF.out _) ?_)|fail)
  refine KS.mono ?_
  rintro e w5 ⟨d5,c5,rfl,hs5,hb5⟩
  have H5:Hid (Sees w5 d5 c5 l/\Below w.heap.size w w5):=⟨hs5,H0.out.2.2.1.trans ((HBV.out.trans (hb5.mono HBV.out.size)).mono H0.out.2.2.1.size)⟩
  clear hs5 hb5 KS
  go_wp2
  go_ret2
  exact⟨d5,c5,rfl,H5.out⟩
 ·have hr2:s.repB F=false:=Bool.eq_false_iff.2 hr
  rw[hr2] at KF
  have HG:Hid (l=[]/\n=1):=⟨HLN.out.1.trans (if_neg hr),HLN.out.2.trans (if_neg hr)⟩
  clear hr hr2
  go_wp2_with (first|(refine wpList_gload_run rfl 40 _ rfl _ _ rfl HL0.out ?_)|fail)
  refine KF.mono ?_
  rintro e V ⟨rfl,hbV⟩
  have HE:Hid (Below w.heap.size w V):=H0.out.2.2.1.trans (hbV.mono H0.out.2.2.1.size)
  clear hbV KF
  go_wp2
  go_ret2
  rw[HG.out.1,HG.out.2]
  exact⟨none,0,rfl,Sees.nil' _,HE.out⟩
theorem pereply_any (w:World)(R:Nat)(s:Ec)(ma:Option Addr)(mc:Nat)(h:PEAll w R s ma mc)(hm:s.ms.length=16)(hT:Tabs w)(F:Fr)(A:At)(hF:Seen w F A)(hn:F.n<18446744073709551616)(m ep st ix:Int)(k:Option Addr)(ck:Nat)(key:List UInt8)(hk:Sees w k ck key):
  Calls Tryz.prog 15 #[.pointer (some ⟨R,0,none⟩),.agg (frC F A),.int .i64 m,.int .i64 ep,.int .i64 st,.int .i64 ix,.slice k key.length ck] w λe w'=>FTells w w' e (s.repR F m ep st ix key) (s.repE F m ep st ix key):=
 pereply_at w R s ma mc h hm hT F A hF hn m ep st ix k ck key hk _ _ rfl rfl
end Go.Proofs.YtahnbljbhfpldaaGreatDoor
