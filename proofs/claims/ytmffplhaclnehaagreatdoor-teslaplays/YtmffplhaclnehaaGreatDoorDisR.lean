/- A helper. -/
import Derived.Test.YtmffplhaclnehaaGreatDoorDisA
import Derived.Test.YtmffplhaclnehaaGreatDoorTesR
namespace Go.Proofs.YtmffplhaclnehaaGreatDoor
set_option maxRecDepth 20000
set_option maxHeartbeats 3200000
open Go.ChangeShapes Go.WideShapes Go.ChangeAt Go.RowKit
theorem qB (w:World)(n:Int):Calls Tryz.prog 82 #[.int .i64 n] w λe w'=>e=.returned (.bool (fD n))/\w'=w:=by
 by_cases h0:0<=n
 ·have hN:fD n=decide (n<1048576):=by simp[fD,h0]
  rw[hN]
  clear hN
  by_cases h1:n<1048576
  all_goals
   simp only[h1,decide_true,decide_false]
   go_enter Tryz.func82,Tryz.ntmps82
   go_wp2
   go_ret
   exact⟨by first|rfl|(simp;done)|(simp;omega),rfl⟩
 ·rw[show fD n=false by simp[fD,h0]]
  go_enter Tryz.func82,Tryz.ntmps82
  go_wp2
  go_ret
  exact⟨by first|rfl|(simp;done)|(simp;omega),rfl⟩
theorem yS (w:World)(c:Cf)(st r:Int):Calls Tryz.prog 41 #[.agg (aF c),.int .i64 st,.int .i64 r] w λe w'=>e=.returned (uh c st r)/\Below w.heap.size w w':=by
 have H0:Hid (bz w w.heap.size c (w.alloc (.cells (aF c) 23))):=bz.new w c
 have K1:Hid (∀ W,Calls Tryz.prog 31 #[.agg (aF c)] W λe w'=>e=.returned (.int .i64 (if okB c=true then 0 else 1))/\Below W.heap.size W w'):=λW=>jq W c
 cases ho:okB c
 case false=>
  rw[ho,if_neg Bool.false_ne_true] at K1
  rw[uh,if_neg (by simp[nC,ho])]
  clear ho
  go_enter Tryz.func41,Tryz.ntmps41
  obtain⟨p0,p1,p2,p3,p4,p5,p6,p7,p8,p9⟩:=H0.out.held.1
  go_wp2_with fail
  refine(K1.out _).mono ?_
  rintro e w1 ⟨rfl,hb⟩
  have H1:Hid (bz w w.heap.size c w1):=H0.out.step hb
  clear K1 H0 hb p0 p1 p2 p3 p4 p5 p6 p7 p8 p9
  go_wp2
  go_ret2
  exact⟨by first|rfl|(simp;done)|(simp;omega),H1.out.aM⟩
 rw[ho,if_pos rfl] at K1
 cases hK2:fD st
 case false=>
  rw[uh,if_neg (by simp[nC,hK2])]
  have K2:Hid (∀ W,Calls Tryz.prog 82 #[.int .i64 st] W λe w'=>e=.returned (.bool false)/\w'=W):=λW=>by have:=qB W st;rw[hK2] at this;exact this
  clear ho hK2
  go_enter Tryz.func41,Tryz.ntmps41
  obtain⟨p0,p1,p2,p3,p4,p5,p6,p7,p8,p9⟩:=H0.out.held.1
  go_wp2_with fail
  refine(K1.out _).mono ?_
  rintro e w1 ⟨rfl,hb⟩
  have H1:Hid (bz w w.heap.size c w1):=H0.out.step hb
  clear K1 H0 hb p0 p1 p2 p3 p4 p5 p6 p7 p8 p9
  obtain⟨p0,p1,p2,p3,p4,p5,p6,p7,p8,p9⟩:=H1.out.held.1
  go_wp2_with fail
  refine(K2.out _).mono ?_
  rintro e w2 ⟨rfl,rfl⟩
  have H2:Hid (bz w w.heap.size c w2):=H1.out
  clear K2 H1 p0 p1 p2 p3 p4 p5 p6 p7 p8 p9
  go_wp2
  go_ret2
  exact⟨by first|rfl|(simp;done)|(simp;omega),H2.out.aM⟩
 have K2:Hid (∀ W,Calls Tryz.prog 82 #[.int .i64 st] W λe w'=>e=.returned (.bool true)/\w'=W):=λW=>by have:=qB W st;rw[hK2] at this;exact this
 cases hK3:fD r
 case false=>
  rw[uh,if_neg (by simp[nC,hK3])]
  have K3:Hid (∀ W,Calls Tryz.prog 82 #[.int .i64 r] W λe w'=>e=.returned (.bool false)/\w'=W):=λW=>by have:=qB W r;rw[hK3] at this;exact this
  clear ho hK2 hK3
  go_enter Tryz.func41,Tryz.ntmps41
  obtain⟨p0,p1,p2,p3,p4,p5,p6,p7,p8,p9⟩:=H0.out.held.1
  go_wp2_with fail
  refine(K1.out _).mono ?_
  rintro e w1 ⟨rfl,hb⟩
  have H1:Hid (bz w w.heap.size c w1):=H0.out.step hb
  clear K1 H0 hb p0 p1 p2 p3 p4 p5 p6 p7 p8 p9
  obtain⟨p0,p1,p2,p3,p4,p5,p6,p7,p8,p9⟩:=H1.out.held.1
  go_wp2_with fail
  refine(K2.out _).mono ?_
  rintro e w2 ⟨rfl,rfl⟩
  have H2:Hid (bz w w.heap.size c w2):=H1.out
  clear K2 H1 p0 p1 p2 p3 p4 p5 p6 p7 p8 p9
  obtain⟨p0,p1,p2,p3,p4,p5,p6,p7,p8,p9⟩:=H2.out.held.1
  go_wp2_with fail
  refine(K3.out _).mono ?_
  rintro e w3 ⟨rfl,rfl⟩
  have H3:Hid (bz w w.heap.size c w3):=H2.out
  clear K3 H2 p0 p1 p2 p3 p4 p5 p6 p7 p8 p9
  go_wp2
  go_ret2
  exact⟨by first|rfl|(simp;done)|(simp;omega),H3.out.aM⟩
 have K3:Hid (∀ W,Calls Tryz.prog 82 #[.int .i64 r] W λe w'=>e=.returned (.bool true)/\w'=W):=λW=>by have:=qB W r;rw[hK3] at this;exact this
 have hs:nC c st r=true:=by simp[nC,ho,hK2,hK3]
 obtain⟨_,hst,hr⟩:=MN hs
 have g:=kU ho
 have hd0:=g.d0
 have hd1:=g.d1
 have hk0:=g.k0
 have hk1:=g.k1
 obtain⟨A,hA⟩:=ai (r-st)
 have e1:IntKind.i64.wrap (r-st)=A:=by rw[hA];exact eD (by omega) (by omega)
 rw[uh,if_pos hs,<-hA]
 clear ho hK2 hK3 hs hst hr g hd0 hd1 hk0 hk1 hA
 by_cases h1:1<=A
 case neg=>
  rw[if_neg (by simp[mF,h1])]
  go_enter Tryz.func41,Tryz.ntmps41
  obtain⟨p0,p1,p2,p3,p4,p5,p6,p7,p8,p9⟩:=H0.out.held.1
  go_wp2_with fail
  refine(K1.out _).mono ?_
  rintro e w1 ⟨rfl,hb⟩
  have H1:Hid (bz w w.heap.size c w1):=H0.out.step hb
  clear K1 H0 hb p0 p1 p2 p3 p4 p5 p6 p7 p8 p9
  obtain⟨p0,p1,p2,p3,p4,p5,p6,p7,p8,p9⟩:=H1.out.held.1
  go_wp2_with fail
  refine(K2.out _).mono ?_
  rintro e w2 ⟨rfl,rfl⟩
  have H2:Hid (bz w w.heap.size c w2):=H1.out
  clear K2 H1 p0 p1 p2 p3 p4 p5 p6 p7 p8 p9
  obtain⟨p0,p1,p2,p3,p4,p5,p6,p7,p8,p9⟩:=H2.out.held.1
  go_wp2_with fail
  refine(K3.out _).mono ?_
  rintro e w3 ⟨rfl,rfl⟩
  have H3:Hid (bz w w.heap.size c w3):=H2.out
  clear K3 H2 p0 p1 p2 p3 p4 p5 p6 p7 p8 p9
  obtain⟨p0,p1,p2,p3,p4,p5,p6,p7,p8,p9⟩:=H3.out.held.1
  go_wp2
  go_ret2
  exact⟨by first|rfl|(simp;done)|(simp;omega),H3.out.aM⟩
 by_cases h2:A<=c.k
 case neg=>
  rw[if_neg (by simp[mF,h2])]
  go_enter Tryz.func41,Tryz.ntmps41
  obtain⟨p0,p1,p2,p3,p4,p5,p6,p7,p8,p9⟩:=H0.out.held.1
  go_wp2_with fail
  refine(K1.out _).mono ?_
  rintro e w1 ⟨rfl,hb⟩
  have H1:Hid (bz w w.heap.size c w1):=H0.out.step hb
  clear K1 H0 hb p0 p1 p2 p3 p4 p5 p6 p7 p8 p9
  obtain⟨p0,p1,p2,p3,p4,p5,p6,p7,p8,p9⟩:=H1.out.held.1
  go_wp2_with fail
  refine(K2.out _).mono ?_
  rintro e w2 ⟨rfl,rfl⟩
  have H2:Hid (bz w w.heap.size c w2):=H1.out
  clear K2 H1 p0 p1 p2 p3 p4 p5 p6 p7 p8 p9
  obtain⟨p0,p1,p2,p3,p4,p5,p6,p7,p8,p9⟩:=H2.out.held.1
  go_wp2_with fail
  refine(K3.out _).mono ?_
  rintro e w3 ⟨rfl,rfl⟩
  have H3:Hid (bz w w.heap.size c w3):=H2.out
  clear K3 H2 p0 p1 p2 p3 p4 p5 p6 p7 p8 p9
  obtain⟨p0,p1,p2,p3,p4,p5,p6,p7,p8,p9⟩:=H3.out.held.1
  go_wp2
  go_ret2
  exact⟨by first|rfl|(simp;done)|(simp;omega),H3.out.aM⟩
 rw[if_pos (by simp[mF,h1,h2])]
 go_enter Tryz.func41,Tryz.ntmps41
 obtain⟨p0,p1,p2,p3,p4,p5,p6,p7,p8,p9⟩:=H0.out.held.1
 go_wp2_with fail
 refine(K1.out _).mono ?_
 rintro e w1 ⟨rfl,hb⟩
 have H1:Hid (bz w w.heap.size c w1):=H0.out.step hb
 clear K1 H0 hb p0 p1 p2 p3 p4 p5 p6 p7 p8 p9
 obtain⟨p0,p1,p2,p3,p4,p5,p6,p7,p8,p9⟩:=H1.out.held.1
 go_wp2_with fail
 refine(K2.out _).mono ?_
 rintro e w2 ⟨rfl,rfl⟩
 have H2:Hid (bz w w.heap.size c w2):=H1.out
 clear K2 H1 p0 p1 p2 p3 p4 p5 p6 p7 p8 p9
 obtain⟨p0,p1,p2,p3,p4,p5,p6,p7,p8,p9⟩:=H2.out.held.1
 go_wp2_with fail
 refine(K3.out _).mono ?_
 rintro e w3 ⟨rfl,rfl⟩
 have H3:Hid (bz w w.heap.size c w3):=H2.out
 clear K3 H2 p0 p1 p2 p3 p4 p5 p6 p7 p8 p9
 obtain⟨p0,p1,p2,p3,p4,p5,p6,p7,p8,p9⟩:=H3.out.held.1
 go_wp2
 go_ret2
 exact⟨by first|rfl|(simp;done)|(simp;omega),H3.out.aM⟩
theorem MQ (w:World)(c:Cf)(sl st i:Int):Calls Tryz.prog 81 #[.agg (aF c),.int .i64 sl,.int .i64 st,.int .i64 i] w λe w'=>e=.returned (BX c sl st i)/\Below w.heap.size w w':=by
 have H0:Hid (bz w w.heap.size c (w.alloc (.cells (aF c) 23))):=bz.new w c
 have K1:Hid (∀ W,Calls Tryz.prog 31 #[.agg (aF c)] W λe w'=>e=.returned (.int .i64 (if okB c=true then 0 else 1))/\Below W.heap.size W w'):=λW=>jq W c
 cases ho:okB c
 case false=>
  rw[ho,if_neg Bool.false_ne_true] at K1
  rw[BX,if_neg (by simp[BZ,ho])]
  clear ho
  go_enter Tryz.func81,Tryz.ntmps81
  obtain⟨p0,p1,p2,p3,p4,p5,p6,p7,p8,p9⟩:=H0.out.held.1
  go_wp2_with fail
  refine(K1.out _).mono ?_
  rintro e w1 ⟨rfl,hb⟩
  have H1:Hid (bz w w.heap.size c w1):=H0.out.step hb
  clear K1 H0 hb p0 p1 p2 p3 p4 p5 p6 p7 p8 p9
  obtain⟨p0,p1,p2,p3,p4,p5,p6,p7,p8,p9⟩:=H1.out.held.1
  go_wp2
  go_ret2
  exact⟨by first|rfl|(simp;done)|(simp;omega),H1.out.aM⟩
 rw[ho,if_pos rfl] at K1
 cases hK2:fD st
 case false=>
  rw[BX,if_neg (by simp[BZ,hK2])]
  have K2:Hid (∀ W,Calls Tryz.prog 82 #[.int .i64 st] W λe w'=>e=.returned (.bool false)/\w'=W):=λW=>by have:=qB W st;rw[hK2] at this;exact this
  clear ho hK2
  go_enter Tryz.func81,Tryz.ntmps81
  obtain⟨p0,p1,p2,p3,p4,p5,p6,p7,p8,p9⟩:=H0.out.held.1
  go_wp2_with fail
  refine(K1.out _).mono ?_
  rintro e w1 ⟨rfl,hb⟩
  have H1:Hid (bz w w.heap.size c w1):=H0.out.step hb
  clear K1 H0 hb p0 p1 p2 p3 p4 p5 p6 p7 p8 p9
  obtain⟨p0,p1,p2,p3,p4,p5,p6,p7,p8,p9⟩:=H1.out.held.1
  go_wp2_with fail
  refine(K2.out _).mono ?_
  rintro e w2 ⟨rfl,rfl⟩
  have H2:Hid (bz w w.heap.size c w2):=H1.out
  clear K2 H1 p0 p1 p2 p3 p4 p5 p6 p7 p8 p9
  obtain⟨p0,p1,p2,p3,p4,p5,p6,p7,p8,p9⟩:=H2.out.held.1
  go_wp2
  go_ret2
  exact⟨by first|rfl|(simp;done)|(simp;omega),H2.out.aM⟩
 have K2:Hid (∀ W,Calls Tryz.prog 82 #[.int .i64 st] W λe w'=>e=.returned (.bool true)/\w'=W):=λW=>by have:=qB W st;rw[hK2] at this;exact this
 by_cases s0:0<=sl
 case neg=>
  rw[BX,if_neg (by simp[BZ,gN,iT,s0])]
  clear ho hK2
  go_enter Tryz.func81,Tryz.ntmps81
  obtain⟨p0,p1,p2,p3,p4,p5,p6,p7,p8,p9⟩:=H0.out.held.1
  go_wp2_with fail
  refine(K1.out _).mono ?_
  rintro e w1 ⟨rfl,hb⟩
  have H1:Hid (bz w w.heap.size c w1):=H0.out.step hb
  clear K1 H0 hb p0 p1 p2 p3 p4 p5 p6 p7 p8 p9
  obtain⟨p0,p1,p2,p3,p4,p5,p6,p7,p8,p9⟩:=H1.out.held.1
  go_wp2_with fail
  refine(K2.out _).mono ?_
  rintro e w2 ⟨rfl,rfl⟩
  have H2:Hid (bz w w.heap.size c w2):=H1.out
  clear K2 H1 p0 p1 p2 p3 p4 p5 p6 p7 p8 p9
  obtain⟨p0,p1,p2,p3,p4,p5,p6,p7,p8,p9⟩:=H2.out.held.1
  go_wp2
  go_ret2
  exact⟨by first|rfl|(simp;done)|(simp;omega),H2.out.aM⟩
 by_cases s1:sl<c.n
 case neg=>
  rw[BX,if_neg (by simp[BZ,gN,iT,s1])]
  clear ho hK2
  go_enter Tryz.func81,Tryz.ntmps81
  obtain⟨p0,p1,p2,p3,p4,p5,p6,p7,p8,p9⟩:=H0.out.held.1
  go_wp2_with fail
  refine(K1.out _).mono ?_
  rintro e w1 ⟨rfl,hb⟩
  have H1:Hid (bz w w.heap.size c w1):=H0.out.step hb
  clear K1 H0 hb p0 p1 p2 p3 p4 p5 p6 p7 p8 p9
  obtain⟨p0,p1,p2,p3,p4,p5,p6,p7,p8,p9⟩:=H1.out.held.1
  go_wp2_with fail
  refine(K2.out _).mono ?_
  rintro e w2 ⟨rfl,rfl⟩
  have H2:Hid (bz w w.heap.size c w2):=H1.out
  clear K2 H1 p0 p1 p2 p3 p4 p5 p6 p7 p8 p9
  obtain⟨p0,p1,p2,p3,p4,p5,p6,p7,p8,p9⟩:=H2.out.held.1
  go_wp2
  go_ret2
  exact⟨by first|rfl|(simp;done)|(simp;omega),H2.out.aM⟩
 by_cases i0:1<=i
 case neg=>
  rw[BX,if_neg (by simp[BZ,mF,i0])]
  clear ho hK2
  go_enter Tryz.func81,Tryz.ntmps81
  obtain⟨p0,p1,p2,p3,p4,p5,p6,p7,p8,p9⟩:=H0.out.held.1
  go_wp2_with fail
  refine(K1.out _).mono ?_
  rintro e w1 ⟨rfl,hb⟩
  have H1:Hid (bz w w.heap.size c w1):=H0.out.step hb
  clear K1 H0 hb p0 p1 p2 p3 p4 p5 p6 p7 p8 p9
  obtain⟨p0,p1,p2,p3,p4,p5,p6,p7,p8,p9⟩:=H1.out.held.1
  go_wp2_with fail
  refine(K2.out _).mono ?_
  rintro e w2 ⟨rfl,rfl⟩
  have H2:Hid (bz w w.heap.size c w2):=H1.out
  clear K2 H1 p0 p1 p2 p3 p4 p5 p6 p7 p8 p9
  obtain⟨p0,p1,p2,p3,p4,p5,p6,p7,p8,p9⟩:=H2.out.held.1
  go_wp2
  go_ret2
  exact⟨by first|rfl|(simp;done)|(simp;omega),H2.out.aM⟩
 by_cases i1:i<=c.k
 case neg=>
  rw[BX,if_neg (by simp[BZ,mF,i1])]
  clear ho hK2
  go_enter Tryz.func81,Tryz.ntmps81
  obtain⟨p0,p1,p2,p3,p4,p5,p6,p7,p8,p9⟩:=H0.out.held.1
  go_wp2_with fail
  refine(K1.out _).mono ?_
  rintro e w1 ⟨rfl,hb⟩
  have H1:Hid (bz w w.heap.size c w1):=H0.out.step hb
  clear K1 H0 hb p0 p1 p2 p3 p4 p5 p6 p7 p8 p9
  obtain⟨p0,p1,p2,p3,p4,p5,p6,p7,p8,p9⟩:=H1.out.held.1
  go_wp2_with fail
  refine(K2.out _).mono ?_
  rintro e w2 ⟨rfl,rfl⟩
  have H2:Hid (bz w w.heap.size c w2):=H1.out
  clear K2 H1 p0 p1 p2 p3 p4 p5 p6 p7 p8 p9
  obtain⟨p0,p1,p2,p3,p4,p5,p6,p7,p8,p9⟩:=H2.out.held.1
  go_wp2
  go_ret2
  exact⟨by first|rfl|(simp;done)|(simp;omega),H2.out.aM⟩
 have hv:BX c sl st i=tF c (st+i+c.d) sl:=by
  unfold BX tF Vz
  rw[show BZ c sl st i=gN c (st+i+c.d) sl by simp[BZ,ho,hK2,mF,i0,i1]]
 rw[hv]
 have g:=kU ho
 have hd0:=g.d0
 have hd1:=g.d1
 have hk1:=g.k1
 have hst:=sJ hK2
 obtain⟨A,hA⟩:=ai (st+i)
 obtain⟨B,hB⟩:=ai (st+i+c.d)
 have e1:IntKind.i64.wrap (st+i)=A:=by rw[hA];exact eD (by omega) (by omega)
 have e2:IntKind.i64.wrap (A+c.d)=B:=by rw[hA,hB];exact eD (by omega) (by omega)
 have K4:Hid (∀ W,Calls Tryz.prog 136 #[.agg (aF c),.int .i64 B,.int .i64 sl] W λe w'=>∃ a b,e=.returned (.tuple #[.int .i64 a,.int .i64 b])/\tF c B sl=.tuple #[.int .i64 a,.int .i64 b]/\Below W.heap.size W w'):=λW=>
  (Um     W c B sl).mono fun e w' h => by
    obtain ⟨rfl, hb⟩ := h
    cases hc : gN c B sl
    · exact ⟨0, 1, by simp [tF, hc], by simp [tF, hc], hb⟩
    · exact ⟨_, _, by simp [tF, hc]; exact ⟨rfl, rfl⟩, by simp [tF, hc], hb⟩
 rw[<-hB]
 clear ho hK2 hv g hd0 hd1 hk1 hst hA hB
 go_enter Tryz.func81,Tryz.ntmps81
 obtain⟨p0,p1,p2,p3,p4,p5,p6,p7,p8,p9⟩:=H0.out.held.1
 go_wp2_with fail
 refine(K1.out _).mono ?_
 rintro e w1 ⟨rfl,hb⟩
 have H1:Hid (bz w w.heap.size c w1):=H0.out.step hb
 clear K1 H0 hb p0 p1 p2 p3 p4 p5 p6 p7 p8 p9
 obtain⟨p0,p1,p2,p3,p4,p5,p6,p7,p8,p9⟩:=H1.out.held.1
 go_wp2_with fail
 refine(K2.out _).mono ?_
 rintro e w2 ⟨rfl,rfl⟩
 have H2:Hid (bz w w.heap.size c w2):=H1.out
 clear K2 H1 p0 p1 p2 p3 p4 p5 p6 p7 p8 p9
 obtain⟨p0,p1,p2,p3,p4,p5,p6,p7,p8,p9⟩:=H2.out.held.1
 go_wp2_with fail
 refine(K4.out _).mono ?_
 rintro e w4 ⟨a,b,rfl,hv,hb⟩
 have H4:Hid (bz w w.heap.size c w4):=H2.out.step hb
 have HV:Hid (tF c B sl=.tuple #[.int .i64 a,.int .i64 b]):=hv
 clear K4 H2 hb hv p0 p1 p2 p3 p4 p5 p6 p7 p8 p9 s0 s1 i0 i1
 go_wp2
 go_ret2
 exact⟨by rw[HV.out];rfl,H4.out.aM⟩
theorem El (w:World)(c:Cf)(sl st r m:Int):Calls Tryz.prog 40 #[.agg (aF c),.int .i64 sl,.int .i64 st,.int .i64 r,.int .i64 m] w λe w'=>e=.returned (.int .i64 (ic c sl st r m))/\Below w.heap.size w w':=by
 have H0:Hid (bz w w.heap.size c (w.alloc (.cells (aF c) 23))):=bz.new w c
 unfold ic
 by_cases s0:0<=sl
 case neg=>
  rw[if_neg (by omega)]
  go_enter Tryz.func40,Tryz.ntmps40
  obtain⟨p0,p1,p2,p3,p4,p5,p6,p7,p8,p9⟩:=H0.out.held.1
  go_wp2
  go_ret
  exact⟨by first|rfl|(simp;done)|(simp;omega),H0.out.aM⟩
 by_cases s1:sl<c.n
 case neg=>
  rw[if_neg (by omega)]
  go_enter Tryz.func40,Tryz.ntmps40
  obtain⟨p0,p1,p2,p3,p4,p5,p6,p7,p8,p9⟩:=H0.out.held.1
  go_wp2
  go_ret
  exact⟨by first|rfl|(simp;done)|(simp;omega),H0.out.aM⟩
 rw[if_pos ⟨s0,s1⟩]
 have K1:=λW=>yS W c st r
 have K2:=λW=>MQ W c sl st (r-st)
 unfold uh at K1
 unfold Qy
 unfold BX at K2
 generalize nC c st r=b1 at *
 generalize Vz c sl st (r-st)=T at *
 generalize BZ c sl st (r-st)=b4 at *
 generalize mF c (r-st)=b2 at *
 generalize r-st=A at *
 cases b1
 case false=>
  rw[if_neg Bool.false_ne_true] at K1
  rw[if_neg Bool.false_ne_true]
  have Gv:Hid (∀ W,Calls Tryz.prog 41 #[.agg (aF c),.int .i64 st,.int .i64 r] W λe w'=>e=.returned (.tuple #[.int .i64 0,.int .i64 1])/\Below W.heap.size W w'):=K1
  clear K1 K2
  go_enter Tryz.func40,Tryz.ntmps40
  obtain⟨p0,p1,p2,p3,p4,p5,p6,p7,p8,p9⟩:=H0.out.held.1
  go_wp2_with fail
  refine(Gv.out _).mono ?_
  rintro e w1 ⟨rfl,hb⟩
  have H1:Hid (bz w w.heap.size c w1):=H0.out.step hb
  clear Gv H0 hb p0 p1 p2 p3 p4 p5 p6 p7 p8 p9
  go_wp2
  go_ret
  exact⟨by first|rfl|(simp;done)|(simp;omega),H1.out.aM⟩
 rw[if_pos rfl] at K1
 rw[if_pos rfl]
 cases b2
 case false=>
  rw[if_neg Bool.false_ne_true] at K1
  rw[if_neg Bool.false_ne_true]
  have Gv:Hid (∀ W,Calls Tryz.prog 41 #[.agg (aF c),.int .i64 st,.int .i64 r] W λe w'=>e=.returned (.tuple #[.int .i64 0,.int .i64 6])/\Below W.heap.size W w'):=K1
  clear K1 K2
  go_enter Tryz.func40,Tryz.ntmps40
  obtain⟨p0,p1,p2,p3,p4,p5,p6,p7,p8,p9⟩:=H0.out.held.1
  go_wp2_with fail
  refine(Gv.out _).mono ?_
  rintro e w1 ⟨rfl,hb⟩
  have H1:Hid (bz w w.heap.size c w1):=H0.out.step hb
  clear Gv H0 hb p0 p1 p2 p3 p4 p5 p6 p7 p8 p9
  go_wp2
  go_ret
  exact⟨by first|rfl|(simp;done)|(simp;omega),H1.out.aM⟩
 rw[if_pos rfl] at K1
 rw[if_pos rfl]
 have Gv:Hid (∀ W,Calls Tryz.prog 41 #[.agg (aF c),.int .i64 st,.int .i64 r] W λe w'=>e=.returned (.tuple #[.int .i64 A,.int .i64 0])/\Below W.heap.size W w'):=K1
 clear K1
 by_cases m0:0<=m
 case neg=>
  rw[if_neg (by simp[lW,m0])]
  clear K2
  go_enter Tryz.func40,Tryz.ntmps40
  obtain⟨p0,p1,p2,p3,p4,p5,p6,p7,p8,p9⟩:=H0.out.held.1
  go_wp2_with fail
  refine(Gv.out _).mono ?_
  rintro e w1 ⟨rfl,hb⟩
  have H1:Hid (bz w w.heap.size c w1):=H0.out.step hb
  clear Gv H0 hb p0 p1 p2 p3 p4 p5 p6 p7 p8 p9
  go_wp2
  go_ret
  exact⟨by first|rfl|(simp;done)|(simp;omega),H1.out.aM⟩
 by_cases m1:m<=1099511627776
 case neg=>
  rw[if_neg (by simp[lW,m1])]
  clear K2
  go_enter Tryz.func40,Tryz.ntmps40
  obtain⟨p0,p1,p2,p3,p4,p5,p6,p7,p8,p9⟩:=H0.out.held.1
  go_wp2_with fail
  refine(Gv.out _).mono ?_
  rintro e w1 ⟨rfl,hb⟩
  have H1:Hid (bz w w.heap.size c w1):=H0.out.step hb
  clear Gv H0 hb p0 p1 p2 p3 p4 p5 p6 p7 p8 p9
  go_wp2
  go_ret
  exact⟨by first|rfl|(simp;done)|(simp;omega),H1.out.aM⟩
 rw[if_pos (by simp[lW,m0,m1])]
 cases b4
 case false=>
  rw[if_neg Bool.false_ne_true] at K2
  rw[if_neg Bool.false_ne_true]
  have rT:Hid (∀ W,Calls Tryz.prog 81 #[.agg (aF c),.int .i64 sl,.int .i64 st,.int .i64 A] W λe w'=>e=.returned (.tuple #[.int .i64 0,.int .i64 1])/\Below W.heap.size W w'):=K2
  clear K2
  go_enter Tryz.func40,Tryz.ntmps40
  obtain⟨p0,p1,p2,p3,p4,p5,p6,p7,p8,p9⟩:=H0.out.held.1
  go_wp2_with fail
  refine(Gv.out _).mono ?_
  rintro e w1 ⟨rfl,hb⟩
  have H1:Hid (bz w w.heap.size c w1):=H0.out.step hb
  clear Gv H0 hb p0 p1 p2 p3 p4 p5 p6 p7 p8 p9
  obtain⟨p0,p1,p2,p3,p4,p5,p6,p7,p8,p9⟩:=H1.out.held.1
  go_wp2_with fail
  refine(rT.out _).mono ?_
  rintro e w2 ⟨rfl,hb⟩
  have H2:Hid (bz w w.heap.size c w2):=H1.out.step hb
  clear rT H1 hb p0 p1 p2 p3 p4 p5 p6 p7 p8 p9
  go_wp2
  go_ret
  exact⟨by first|rfl|(simp;done)|(simp;omega),H2.out.aM⟩
 rw[if_pos rfl] at K2
 rw[if_pos rfl]
 have rT:Hid (∀ W,Calls Tryz.prog 81 #[.agg (aF c),.int .i64 sl,.int .i64 st,.int .i64 A] W λe w'=>e=.returned (.tuple #[.int .i64 T,.int .i64 0])/\Below W.heap.size W w'):=K2
 clear K2
 by_cases hT:T<=m
 all_goals
  first|rw[if_pos hT]|rw[if_neg hT]
  go_enter Tryz.func40,Tryz.ntmps40
  obtain⟨p0,p1,p2,p3,p4,p5,p6,p7,p8,p9⟩:=H0.out.held.1
  go_wp2_with fail
  refine(Gv.out _).mono ?_
  rintro e w1 ⟨rfl,hb⟩
  have H1:Hid (bz w w.heap.size c w1):=H0.out.step hb
  clear Gv H0 hb p0 p1 p2 p3 p4 p5 p6 p7 p8 p9
  obtain⟨p0,p1,p2,p3,p4,p5,p6,p7,p8,p9⟩:=H1.out.held.1
  go_wp2_with fail
  refine(rT.out _).mono ?_
  rintro e w2 ⟨rfl,hb⟩
  have H2:Hid (bz w w.heap.size c w2):=H1.out.step hb
  clear rT H1 hb p0 p1 p2 p3 p4 p5 p6 p7 p8 p9
  go_wp2
  go_ret
  exact⟨by first|rfl|(simp;done)|(simp;omega),H2.out.aM⟩
end Go.Proofs.YtmffplhaclnehaaGreatDoor
