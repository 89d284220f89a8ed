/- A helper. -/
import Derived.Test.YtmffplhaclnehaaGreatDoorSchedC
namespace Go.Proofs.YtmffplhaclnehaaGreatDoor
set_option maxRecDepth 20000
set_option maxHeartbeats 1600000
open Go.ChangeShapes Go.WideShapes Go.ChangeAt Go.RowKit
def Jk (c:Cf)(st r:Int):Value:=if nC c st r=true then .tuple #[.int .i64 (r-st),.int .i64 0] else .tuple #[.int .i64 0,.int .i64 1]
def uh (c:Cf)(st r:Int):Value:=if nC c st r=true then (if mF c (r-st)=true then .tuple #[.int .i64 (r-st),.int .i64 0] else .tuple #[.int .i64 0,.int .i64 6]) else .tuple #[.int .i64 0,.int .i64 1]
theorem rz (w:World)(n:Int):Calls Tryz.prog 54 #[.int .i64 n] w λe w'=>e=.returned (.bool (fD n))/\w'=w:=by
 by_cases h0:0<=n
 ·have hN:fD n=decide (n<1048576):=by simp[fD,h0]
  rw[hN]
  clear hN
  by_cases h1:n<1048576
  all_goals
   simp only[h1,decide_true,decide_false]
   go_enter Tryz.func54,Tryz.ntmps54
   go_wp2
   go_ret
   exact⟨by first|rfl|(simp;done)|(simp;omega),rfl⟩
 ·rw[show fD n=false by simp[fD,h0]]
  go_enter Tryz.func54,Tryz.ntmps54
  go_wp2
  go_ret
  exact⟨by first|rfl|(simp;done)|(simp;omega),rfl⟩
theorem BV (w:World)(c:Cf)(i:Int):Calls Tryz.prog 55 #[.agg (aF c),.int .i64 i] w λe w'=>e=.returned (.bool (mF c i))/\Below w.heap.size w w':=by
 have H0:Hid (bz w w.heap.size c (w.alloc (.cells (aF c) 23))):=bz.new w c
 have p4:=H0.out.own.c4
 by_cases h0:1<=i
 ·have hN:mF c i=decide (i<=c.k):=by simp[mF,h0]
  rw[hN]
  clear hN
  by_cases h1:i<=c.k
  all_goals
   simp only[h1,decide_true,decide_false]
   go_enter Tryz.func55,Tryz.ntmps55
   go_wp2
   go_ret
   exact⟨by first|rfl|(simp;done)|(simp;omega),H0.out.aM⟩
 ·rw[show mF c i=false by simp[mF,h0]]
  go_enter Tryz.func55,Tryz.ntmps55
  go_wp2
  go_ret
  exact⟨by first|rfl|(simp;done)|(simp;omega),H0.out.aM⟩
theorem Jl (w:World)(c:Cf)(sl:Int):Calls Tryz.prog 124 #[.agg (aF c),.int .i64 sl] w λe w'=>e=.returned (.bool (Ej c sl))/\Below w.heap.size w w':=by
 have H0:Hid (bz w w.heap.size c (w.alloc (.cells (aF c) 23))):=bz.new w c
 have p4:=H0.out.own.c0
 by_cases h0:0<=sl
 ·have hN:Ej c sl=decide (sl<c.n):=by simp[Ej,h0]
  rw[hN]
  clear hN
  by_cases h1:sl<c.n
  all_goals
   simp only[h1,decide_true,decide_false]
   go_enter Tryz.func124,Tryz.ntmps124
   go_wp2
   go_ret
   exact⟨by first|rfl|(simp;done)|(simp;omega),H0.out.aM⟩
 ·rw[show Ej c sl=false by simp[Ej,h0]]
  go_enter Tryz.func124,Tryz.ntmps124
  go_wp2
  go_ret
  exact⟨by first|rfl|(simp;done)|(simp;omega),H0.out.aM⟩
theorem ML (w:World)(c:Cf)(st r:Int):Calls Tryz.prog 125 #[.agg (aF c),.int .i64 st,.int .i64 r] w λe w'=>e=.returned (Jk c st r)/\Below w.heap.size w w':=by
 have HL:Hid ((Instr.loadAt 23 (.pointer (some ⟨w.heap.size,0,none⟩))).run Tryz.prog (w.alloc (.cells (aF c) 23))=.ok (.agg (aF c)) (w.alloc (.cells (aF c) 23))):=(aS.new w c).loads
 have K1:=kD (w.alloc (.cells (aF c) 23)) c
 have H0:Hid (bz w w.heap.size c (w.alloc (.cells (aF c) 23))):=bz.new w c
 have K2:=λW=>rz W st
 have K3:=λW=>rz W r
 cases ho:okB c
 case false=>
  rw[ho,if_neg Bool.false_ne_true] at K1
  rw[Jk,if_neg (by simp[nC,ho])]
  clear ho K2 K3
  go_enter Tryz.func125,Tryz.ntmps125
  go_wp2_with (first|(refine af rfl 23 _ rfl _ _ rfl HL.out ?_)|fail)
  refine K1.mono ?_
  rintro e w1 ⟨rfl,hb⟩
  have H1:Hid (bz w w.heap.size c w1):=H0.out.step hb
  clear K1 HL H0 hb
  go_wp2
  go_ret2
  exact⟨rfl,H1.out.aM⟩
 rw[ho,if_pos rfl] at K1
 cases h2:fD st
 case false=>
  rw[h2] at K2
  have rT:Hid (∀ W,Calls Tryz.prog 54 #[.int .i64 st] W λe w'=>e=.returned (.bool false)/\w'=W):=K2
  rw[Jk,if_neg (by simp[nC,h2])]
  clear ho h2 K2 K3
  go_enter Tryz.func125,Tryz.ntmps125
  go_wp2_with (first|(refine af rfl 23 _ rfl _ _ rfl HL.out ?_)|fail)
  refine K1.mono ?_
  rintro e w1 ⟨rfl,hb⟩
  have H1:Hid (bz w w.heap.size c w1):=H0.out.step hb
  clear K1 HL H0 hb
  go_wp2_with fail
  refine(rT.out _).mono ?_
  rintro e w2 ⟨rfl,rfl⟩
  clear rT
  go_wp2
  go_ret2
  exact⟨rfl,H1.out.aM⟩
 rw[h2] at K2
 have rT:Hid (∀ W,Calls Tryz.prog 54 #[.int .i64 st] W λe w'=>e=.returned (.bool true)/\w'=W):=K2
 cases h3:fD r
 case false=>
  rw[h3] at K3
  have MM:Hid (∀ W,Calls Tryz.prog 54 #[.int .i64 r] W λe w'=>e=.returned (.bool false)/\w'=W):=K3
  rw[Jk,if_neg (by simp[nC,h3])]
  clear ho h2 h3 K2 K3
  go_enter Tryz.func125,Tryz.ntmps125
  go_wp2_with (first|(refine af rfl 23 _ rfl _ _ rfl HL.out ?_)|fail)
  refine K1.mono ?_
  rintro e w1 ⟨rfl,hb⟩
  have H1:Hid (bz w w.heap.size c w1):=H0.out.step hb
  clear K1 HL H0 hb
  go_wp2_with fail
  refine(rT.out _).mono ?_
  rintro e w2 ⟨rfl,rfl⟩
  clear rT
  go_wp2_with fail
  refine(MM.out _).mono ?_
  rintro e w3 ⟨rfl,rfl⟩
  clear MM
  go_wp2
  go_ret2
  exact⟨rfl,H1.out.aM⟩
 rw[h3] at K3
 have MM:Hid (∀ W,Calls Tryz.prog 54 #[.int .i64 r] W λe w'=>e=.returned (.bool true)/\w'=W):=K3
 have hs:nC c st r=true:=by simp[nC,ho,h2,h3]
 rw[Jk,if_pos hs]
 obtain⟨_,hst,hr⟩:=MN hs
 obtain⟨A,hA⟩:=ai (r-st)
 have e1:IntKind.i64.wrap (r-st)=A:=by rw[hA];exact eD (by omega) (by omega)
 rw[<-hA]
 clear ho h2 h3 K2 K3 hs hst hr hA
 go_enter Tryz.func125,Tryz.ntmps125
 go_wp2_with (first|(refine af rfl 23 _ rfl _ _ rfl HL.out ?_)|fail)
 refine K1.mono ?_
 rintro e w1 ⟨rfl,hb⟩
 have H1:Hid (bz w w.heap.size c w1):=H0.out.step hb
 clear K1 HL H0 hb
 go_wp2_with fail
 refine(rT.out _).mono ?_
 rintro e w2 ⟨rfl,rfl⟩
 clear rT
 go_wp2_with fail
 refine(MM.out _).mono ?_
 rintro e w3 ⟨rfl,rfl⟩
 clear MM
 go_wp2
 go_ret2
 exact⟨rfl,H1.out.aM⟩
theorem yR (w:World)(c:Cf)(st r:Int):Calls Tryz.prog 75 #[.agg (aF c),.int .i64 st,.int .i64 r] w λe w'=>e=.returned (uh c st r)/\Below w.heap.size w w':=by
 have HL:Hid ((Instr.loadAt 23 (.pointer (some ⟨w.heap.size,0,none⟩))).run Tryz.prog (w.alloc (.cells (aF c) 23))=.ok (.agg (aF c)) (w.alloc (.cells (aF c) 23))):=(aS.new w c).loads
 have K1:=ML (w.alloc (.cells (aF c) 23)) c st r
 have H0:Hid (bz w w.heap.size c (w.alloc (.cells (aF c) 23))):=bz.new w c
 have K2:=λW=>BV W c (r-st)
 unfold Jk at K1
 unfold uh
 cases hs:nC c st r
 case false=>
  rw[hs,if_neg Bool.false_ne_true] at K1
  rw[if_neg Bool.false_ne_true]
  clear hs K2
  go_enter Tryz.func75,Tryz.ntmps75
  go_wp2_with (first|(refine af rfl 23 _ rfl _ _ rfl HL.out ?_)|fail)
  refine K1.mono ?_
  rintro e w1 ⟨rfl,hb⟩
  have H1:Hid (bz w w.heap.size c w1):=H0.out.step hb
  clear K1 HL H0 hb
  go_wp2
  go_ret2
  exact⟨rfl,H1.out.aM⟩
 rw[hs,if_pos rfl] at K1
 rw[if_pos rfl]
 clear hs
 generalize r-st=A at *
 generalize mF c A=b at *
 have rT:Hid (∀ W,Calls Tryz.prog 55 #[.agg (aF c),.int .i64 A] W λe w'=>e=.returned (.bool b)/\Below W.heap.size W w'):=K2
 clear K2
 go_enter Tryz.func75,Tryz.ntmps75
 go_wp2_with (first|(refine af rfl 23 _ rfl _ _ rfl HL.out ?_)|fail)
 refine K1.mono ?_
 rintro e w1 ⟨rfl,hb⟩
 have H1:Hid (bz w w.heap.size c w1):=H0.out.step hb
 have qN:Hid ((Instr.loadAt 23 (.pointer (some ⟨w.heap.size,0,none⟩))).run Tryz.prog w1=.ok (.agg (aF c)) w1):=H1.out.own.loads
 clear K1 HL H0 hb
 go_wp2_with (first|(refine af rfl 23 _ rfl _ _ rfl qN.out ?_)|fail)
 refine(rT.out _).mono ?_
 rintro e w2 ⟨rfl,hb⟩
 have H2:Hid (bz w w.heap.size c w2):=H1.out.step hb
 clear rT qN H1 hb
 cases b
 all_goals
  go_wp2
  go_ret2
  exact⟨rfl,H2.out.aM⟩
def BX (c:Cf)(sl st i:Int):Value:=if BZ c sl st i=true then .tuple #[.int .i64 (Vz c sl st i),.int .i64 0] else .tuple #[.int .i64 0,.int .i64 1]
theorem Qx (w:World)(c:Cf)(sl st i:Int):Calls Tryz.prog 27 #[.agg (aF c),.int .i64 sl,.int .i64 st,.int .i64 i] w λe w'=>e=.returned (BX c sl st i)/\Below w.heap.size w w':=by
 have HL:Hid ((Instr.loadAt 23 (.pointer (some ⟨w.heap.size,0,none⟩))).run Tryz.prog (w.alloc (.cells (aF c) 23))=.ok (.agg (aF c)) (w.alloc (.cells (aF c) 23))):=(aS.new w c).loads
 have K1:=kD (w.alloc (.cells (aF c) 23)) c
 have H0:Hid (bz w w.heap.size c (w.alloc (.cells (aF c) 23))):=bz.new w c
 have K2:=λW=>rz W st
 have K3:=λW=>BV W c i
 cases ho:okB c
 case false=>
  rw[ho,if_neg Bool.false_ne_true] at K1
  rw[BX,if_neg (by simp[BZ,ho])]
  clear ho K2 K3
  go_enter Tryz.func27,Tryz.ntmps27
  go_wp2_with (first|(refine af rfl 23 _ rfl _ _ rfl HL.out ?_)|fail)
  refine K1.mono ?_
  rintro e w1 ⟨rfl,hb⟩
  have H1:Hid (bz w w.heap.size c w1):=H0.out.step hb
  clear K1 HL H0 hb
  go_wp2
  go_ret2
  exact⟨rfl,H1.out.aM⟩
 rw[ho,if_pos rfl] at K1
 cases h2:fD st
 case false=>
  rw[h2] at K2
  have rT:Hid (∀ W,Calls Tryz.prog 54 #[.int .i64 st] W λe w'=>e=.returned (.bool false)/\w'=W):=K2
  rw[BX,if_neg (by simp[BZ,h2])]
  clear ho h2 K2 K3
  go_enter Tryz.func27,Tryz.ntmps27
  go_wp2_with (first|(refine af rfl 23 _ rfl _ _ rfl HL.out ?_)|fail)
  refine K1.mono ?_
  rintro e w1 ⟨rfl,hb⟩
  have H1:Hid (bz w w.heap.size c w1):=H0.out.step hb
  clear K1 HL H0 hb
  go_wp2_with fail
  refine(rT.out _).mono ?_
  rintro e w2 ⟨rfl,rfl⟩
  clear rT
  go_wp2
  go_ret2
  exact⟨rfl,H1.out.aM⟩
 rw[h2] at K2
 have rT:Hid (∀ W,Calls Tryz.prog 54 #[.int .i64 st] W λe w'=>e=.returned (.bool true)/\w'=W):=K2
 cases h3:mF c i
 case false=>
  rw[h3] at K3
  have MM:Hid (∀ W,Calls Tryz.prog 55 #[.agg (aF c),.int .i64 i] W λe w'=>e=.returned (.bool false)/\Below W.heap.size W w'):=K3
  rw[BX,if_neg (by simp[BZ,h3])]
  clear ho h2 h3 K2 K3
  go_enter Tryz.func27,Tryz.ntmps27
  go_wp2_with (first|(refine af rfl 23 _ rfl _ _ rfl HL.out ?_)|fail)
  refine K1.mono ?_
  rintro e w1 ⟨rfl,hb⟩
  have H1:Hid (bz w w.heap.size c w1):=H0.out.step hb
  have qN:Hid ((Instr.loadAt 23 (.pointer (some ⟨w.heap.size,0,none⟩))).run Tryz.prog w1=.ok (.agg (aF c)) w1):=H1.out.own.loads
  clear K1 HL H0 hb
  go_wp2_with fail
  refine(rT.out _).mono ?_
  rintro e w2 ⟨rfl,rfl⟩
  clear rT
  go_wp2_with (first|(refine af rfl 23 _ rfl _ _ rfl qN.out ?_)|fail)
  refine(MM.out _).mono ?_
  rintro e w3 ⟨rfl,hb⟩
  have H3:Hid (bz w w.heap.size c w3):=H1.out.step hb
  clear MM qN H1 hb
  go_wp2
  go_ret2
  exact⟨rfl,H3.out.aM⟩
 rw[h3] at K3
 have MM:Hid (∀ W,Calls Tryz.prog 55 #[.agg (aF c),.int .i64 i] W λe w'=>e=.returned (.bool true)/\Below W.heap.size W w'):=K3
 have hv:BX c sl st i=tF c (st+i+c.d) sl:=by
  unfold BX tF Vz
  rw[show BZ c sl st i=gN c (st+i+c.d) sl by simp[BZ,ho,h2,h3]]
 rw[hv]
 have g:=kU ho
 have hd0:=g.d0
 have hd1:=g.d1
 have hk1:=g.k1
 have hst:=sJ h2
 have hi:=MO h3
 obtain⟨A,hA⟩:=ai (st+i)
 obtain⟨B,hB⟩:=ai (st+i+c.d)
 have e1:IntKind.i64.wrap (st+i)=A:=by rw[hA];exact eD (by omega) (by omega)
 have e2:IntKind.i64.wrap (A+c.d)=B:=by rw[hA,hB];exact eD (by omega) (by omega)
 have K4:Hid (∀ W,Calls Tryz.prog 56 #[.agg (aF c),.int .i64 B,.int .i64 sl] W λe w'=>∃ a b,e=.returned (.tuple #[.int .i64 a,.int .i64 b])/\tF c B sl=.tuple #[.int .i64 a,.int .i64 b]/\Below W.heap.size W w'):=λW=>
  (WE    W c B sl).mono fun e w' h => by
    obtain ⟨rfl, hb⟩ := h
    cases hc : gN c B sl
    · exact ⟨0, 1, by simp [tF, hc], by simp [tF, hc], hb⟩
    · exact ⟨_, _, by simp [tF, hc]; exact ⟨rfl, rfl⟩, by simp [tF, hc], hb⟩
 rw[<-hB]
 clear ho h2 h3 K2 K3 hv g hd0 hd1 hk1 hst hi hA hB
 go_enter Tryz.func27,Tryz.ntmps27
 go_wp2_with (first|(refine af rfl 23 _ rfl _ _ rfl HL.out ?_)|fail)
 refine K1.mono ?_
 rintro e w1 ⟨rfl,hb⟩
 have H1:Hid (bz w w.heap.size c w1):=H0.out.step hb
 have qN:Hid ((Instr.loadAt 23 (.pointer (some ⟨w.heap.size,0,none⟩))).run Tryz.prog w1=.ok (.agg (aF c)) w1):=H1.out.own.loads
 clear K1 HL H0 hb
 go_wp2_with fail
 refine(rT.out _).mono ?_
 rintro e w2 ⟨rfl,rfl⟩
 clear rT
 go_wp2_with (first|(refine af rfl 23 _ rfl _ _ rfl qN.out ?_)|fail)
 refine(MM.out _).mono ?_
 rintro e w3 ⟨rfl,hb⟩
 have H3:Hid (bz w w.heap.size c w3):=H1.out.step hb
 have MP:Hid ((Instr.loadAt 23 (.pointer (some ⟨w.heap.size,0,none⟩))).run Tryz.prog w3=.ok (.agg (aF c)) w3):=H3.out.own.loads
 have p3:=H3.out.own.c3
 clear MM qN H1 hb
 go_wp2_with (first|(refine af rfl 23 _ rfl _ _ rfl MP.out ?_)|fail)
 refine(K4.out _).mono ?_
 rintro e w4 ⟨a,b,rfl,hv,hb⟩
 have H4:Hid (bz w w.heap.size c w4):=H3.out.step hb
 have HV:Hid (tF c B sl=.tuple #[.int .i64 a,.int .i64 b]):=hv
 clear K4 MP H3 hb hv p3
 go_wp2
 go_ret2
 exact⟨by rw[HV.out];rfl,H4.out.aM⟩
theorem Jm (w:World)(c:Cf)(sl st r m:Int):Calls Tryz.prog 74 #[.agg (aF c),.int .i64 sl,.int .i64 st,.int .i64 r,.int .i64 m] w λe w'=>e=.returned (.int .i64 (ic c sl st r m))/\Below w.heap.size w w':=by
 have HL:Hid ((Instr.loadAt 23 (.pointer (some ⟨w.heap.size,0,none⟩))).run Tryz.prog (w.alloc (.cells (aF c) 23))=.ok (.agg (aF c)) (w.alloc (.cells (aF c) 23))):=(aS.new w c).loads
 have H0:Hid (bz w w.heap.size c (w.alloc (.cells (aF c) 23))):=bz.new w c
 have K0:=Jl (w.alloc (.cells (aF c) 23)) c sl
 unfold ic
 by_cases hsl:0<=sl/\sl<c.n
 case neg=>
  rw[show Ej c sl=false from decide_eq_false hsl] at K0
  rw[if_neg hsl]
  clear hsl
  go_enter Tryz.func74,Tryz.ntmps74
  go_wp2_with (first|(refine af rfl 23 _ rfl _ _ rfl HL.out ?_)|fail)
  refine K0.mono ?_
  rintro e w1 ⟨rfl,hb⟩
  have H1:Hid (bz w w.heap.size c w1):=H0.out.step hb
  clear K0 HL H0 hb
  go_wp2
  go_ret
  exact⟨rfl,H1.out.aM⟩
 rw[show Ej c sl=true from decide_eq_true hsl] at K0
 rw[if_pos hsl]
 clear hsl
 have K1:=λW=>yR W c st r
 have K2:=λW=>Qx W c sl st (r-st)
 unfold uh at K1
 unfold Qy
 unfold BX at K2
 generalize nC c st r=b1 at *
 generalize Vz c sl st (r-st)=T at *
 generalize BZ c sl st (r-st)=b4 at *
 generalize mF c (r-st)=b2 at *
 generalize r-st=A at *
 cases b1
 case false=>
  rw[if_neg Bool.false_ne_true] at K1
  have K1:Hid (∀ W,Calls Tryz.prog 75 #[.agg (aF c),.int .i64 st,.int .i64 r] W λe w'=>e=.returned (.tuple #[.int .i64 0,.int .i64 1])/\Below W.heap.size W w'):=K1
  rw[if_neg Bool.false_ne_true]
  clear K2
  go_enter Tryz.func74,Tryz.ntmps74
  go_wp2_with (first|(refine af rfl 23 _ rfl _ _ rfl HL.out ?_)|fail)
  refine K0.mono ?_
  rintro e w0 ⟨rfl,hb⟩
  have wI:Hid (bz w w.heap.size c w0):=H0.out.step hb
  have oH:Hid ((Instr.loadAt 23 (.pointer (some ⟨w.heap.size,0,none⟩))).run Tryz.prog w0=.ok (.agg (aF c)) w0):=wI.out.own.loads
  clear K0 HL H0 hb
  go_wp2_with (first|(refine af rfl 23 _ rfl _ _ rfl oH.out ?_)|fail)
  refine(K1.out _).mono ?_
  rintro e w1 ⟨rfl,hb⟩
  have H1:Hid (bz w w.heap.size c w1):=wI.out.step hb
  clear K1 oH wI hb
  go_wp2
  go_ret
  exact⟨rfl,H1.out.aM⟩
 rw[if_pos rfl] at K1
 rw[if_pos rfl]
 cases b2
 case false=>
  rw[if_neg Bool.false_ne_true] at K1
  have K1:Hid (∀ W,Calls Tryz.prog 75 #[.agg (aF c),.int .i64 st,.int .i64 r] W λe w'=>e=.returned (.tuple #[.int .i64 0,.int .i64 6])/\Below W.heap.size W w'):=K1
  rw[if_neg Bool.false_ne_true]
  clear K2
  go_enter Tryz.func74,Tryz.ntmps74
  go_wp2_with (first|(refine af rfl 23 _ rfl _ _ rfl HL.out ?_)|fail)
  refine K0.mono ?_
  rintro e w0 ⟨rfl,hb⟩
  have wI:Hid (bz w w.heap.size c w0):=H0.out.step hb
  have oH:Hid ((Instr.loadAt 23 (.pointer (some ⟨w.heap.size,0,none⟩))).run Tryz.prog w0=.ok (.agg (aF c)) w0):=wI.out.own.loads
  clear K0 HL H0 hb
  go_wp2_with (first|(refine af rfl 23 _ rfl _ _ rfl oH.out ?_)|fail)
  refine(K1.out _).mono ?_
  rintro e w1 ⟨rfl,hb⟩
  have H1:Hid (bz w w.heap.size c w1):=wI.out.step hb
  clear K1 oH wI hb
  go_wp2
  go_ret
  exact⟨rfl,H1.out.aM⟩
 rw[if_pos rfl] at K1
 have K1:Hid (∀ W,Calls Tryz.prog 75 #[.agg (aF c),.int .i64 st,.int .i64 r] W λe w'=>e=.returned (.tuple #[.int .i64 A,.int .i64 0])/\Below W.heap.size W w'):=K1
 rw[if_pos rfl]
 by_cases hm0:0<=m
 case neg=>
  rw[if_neg (by simp[lW,hm0])]
  clear K2
  go_enter Tryz.func74,Tryz.ntmps74
  go_wp2_with (first|(refine af rfl 23 _ rfl _ _ rfl HL.out ?_)|fail)
  refine K0.mono ?_
  rintro e w0 ⟨rfl,hb⟩
  have wI:Hid (bz w w.heap.size c w0):=H0.out.step hb
  have oH:Hid ((Instr.loadAt 23 (.pointer (some ⟨w.heap.size,0,none⟩))).run Tryz.prog w0=.ok (.agg (aF c)) w0):=wI.out.own.loads
  clear K0 HL H0 hb
  go_wp2_with (first|(refine af rfl 23 _ rfl _ _ rfl oH.out ?_)|fail)
  refine(K1.out _).mono ?_
  rintro e w1 ⟨rfl,hb⟩
  have H1:Hid (bz w w.heap.size c w1):=wI.out.step hb
  clear K1 oH wI hb
  go_wp2
  go_ret
  exact⟨rfl,H1.out.aM⟩
 by_cases hm1:m<=1099511627776
 case neg=>
  rw[if_neg (by simp[lW,hm1])]
  clear K2
  go_enter Tryz.func74,Tryz.ntmps74
  go_wp2_with (first|(refine af rfl 23 _ rfl _ _ rfl HL.out ?_)|fail)
  refine K0.mono ?_
  rintro e w0 ⟨rfl,hb⟩
  have wI:Hid (bz w w.heap.size c w0):=H0.out.step hb
  have oH:Hid ((Instr.loadAt 23 (.pointer (some ⟨w.heap.size,0,none⟩))).run Tryz.prog w0=.ok (.agg (aF c)) w0):=wI.out.own.loads
  clear K0 HL H0 hb
  go_wp2_with (first|(refine af rfl 23 _ rfl _ _ rfl oH.out ?_)|fail)
  refine(K1.out _).mono ?_
  rintro e w1 ⟨rfl,hb⟩
  have H1:Hid (bz w w.heap.size c w1):=wI.out.step hb
  clear K1 oH wI hb
  go_wp2
  go_ret
  exact⟨rfl,H1.out.aM⟩
 rw[if_pos (by simp[lW,hm0,hm1])]
 cases b4
 case false=>
  rw[if_neg Bool.false_ne_true] at K2
  rw[if_neg Bool.false_ne_true]
  have rT:Hid (∀ W,Calls Tryz.prog 27 #[.agg (aF c),.int .i64 sl,.int .i64 st,.int .i64 A] W λe w'=>e=.returned (.tuple #[.int .i64 0,.int .i64 1])/\Below W.heap.size W w'):=K2
  clear K2
  go_enter Tryz.func74,Tryz.ntmps74
  go_wp2_with (first|(refine af rfl 23 _ rfl _ _ rfl HL.out ?_)|fail)
  refine K0.mono ?_
  rintro e w0 ⟨rfl,hb⟩
  have wI:Hid (bz w w.heap.size c w0):=H0.out.step hb
  have oH:Hid ((Instr.loadAt 23 (.pointer (some ⟨w.heap.size,0,none⟩))).run Tryz.prog w0=.ok (.agg (aF c)) w0):=wI.out.own.loads
  clear K0 HL H0 hb
  go_wp2_with (first|(refine af rfl 23 _ rfl _ _ rfl oH.out ?_)|fail)
  refine(K1.out _).mono ?_
  rintro e w1 ⟨rfl,hb⟩
  have H1:Hid (bz w w.heap.size c w1):=wI.out.step hb
  have qN:Hid ((Instr.loadAt 23 (.pointer (some ⟨w.heap.size,0,none⟩))).run Tryz.prog w1=.ok (.agg (aF c)) w1):=H1.out.own.loads
  clear K1 oH wI hb
  go_wp2_with (first|(refine af rfl 23 _ rfl _ _ rfl qN.out ?_)|fail)
  refine(rT.out _).mono ?_
  rintro e w2 ⟨rfl,hb⟩
  have H2:Hid (bz w w.heap.size c w2):=H1.out.step hb
  clear rT qN H1 hb
  go_wp2
  go_ret
  exact⟨rfl,H2.out.aM⟩
 rw[if_pos rfl] at K2
 rw[if_pos rfl]
 have rT:Hid (∀ W,Calls Tryz.prog 27 #[.agg (aF c),.int .i64 sl,.int .i64 st,.int .i64 A] W λe w'=>e=.returned (.tuple #[.int .i64 T,.int .i64 0])/\Below W.heap.size W w'):=K2
 clear K2
 by_cases hT:T<=m
 all_goals
  first|rw[if_pos hT]|rw[if_neg hT]
  go_enter Tryz.func74,Tryz.ntmps74
  go_wp2_with (first|(refine af rfl 23 _ rfl _ _ rfl HL.out ?_)|fail)
  refine K0.mono ?_
  rintro e w0 ⟨rfl,hb⟩
  have wI:Hid (bz w w.heap.size c w0):=H0.out.step hb
  have oH:Hid ((Instr.loadAt 23 (.pointer (some ⟨w.heap.size,0,none⟩))).run Tryz.prog w0=.ok (.agg (aF c)) w0):=wI.out.own.loads
  clear K0 HL H0 hb
  go_wp2_with (first|(refine af rfl 23 _ rfl _ _ rfl oH.out ?_)|fail)
  refine(K1.out _).mono ?_
  rintro e w1 ⟨rfl,hb⟩
  have H1:Hid (bz w w.heap.size c w1):=wI.out.step hb
  have qN:Hid ((Instr.loadAt 23 (.pointer (some ⟨w.heap.size,0,none⟩))).run Tryz.prog w1=.ok (.agg (aF c)) w1):=H1.out.own.loads
  clear K1 oH wI hb
  go_wp2_with (first|(refine af rfl 23 _ rfl _ _ rfl qN.out ?_)|fail)
  refine(rT.out _).mono ?_
  rintro e w2 ⟨rfl,hb⟩
  have H2:Hid (bz w w.heap.size c w2):=H1.out.step hb
  clear rT qN H1 hb
  go_wp2
  go_ret
  exact⟨rfl,H2.out.aM⟩
end Go.Proofs.YtmffplhaclnehaaGreatDoor
