/-
  The contracts of disclose.isRound, isKey, since, Index, Told, Over and of the statements' awake.
  The contracts of disclose.When and Secret.
-/
import Derived.Test.YthogohkieiogiaaGreatDoorSchedC
namespace Go.Proofs.YthogohkieiogiaaGreatDoor
set_option maxRecDepth 20000
set_option maxHeartbeats 1600000
open Go.ChangeShapes Go.WideShapes Go.ChangeAt Go.RowKit
def sinV (c:Cf)(st r:Int):Value:=if sinB c st r=true then .tuple #[.int .i64 (r-st),.int .i64 0] else .tuple #[.int .i64 0,.int .i64 1]
def idxV (c:Cf)(st r:Int):Value:=if sinB c st r=true then (if keyB c (r-st)=true then .tuple #[.int .i64 (r-st),.int .i64 0] else .tuple #[.int .i64 0,.int .i64 6]) else .tuple #[.int .i64 0,.int .i64 1]
theorem isround_ok (w:World)(n:Int):Calls Tryz.prog 155 #[.int .i64 n] w λe w'=>e=.returned (.bool (roundB n))/\w'=w:=by
 by_cases h0:0<=n
 ·have hN:roundB n=decide (n<1048576):=by simp[roundB,h0]
  rw[hN]
  clear hN
  by_cases h1:n<1048576
  all_goals
   simp only[h1,decide_true,decide_false]
   go_enter Tryz.func155,Tryz.ntmps155
   go_wp2
   go_ret
   exact⟨by first|rfl|(simp;done)|(simp;omega),rfl⟩
 ·rw[show roundB n=false by simp[roundB,h0]]
  go_enter Tryz.func155,Tryz.ntmps155
  go_wp2
  go_ret
  exact⟨by first|rfl|(simp;done)|(simp;omega),rfl⟩
theorem iskey_ok (w:World)(c:Cf)(i:Int):Calls Tryz.prog 126 #[.agg (cfC c),.int .i64 i] w λe w'=>e=.returned (.bool (keyB c i))/\Below w.heap.size w w':=by
 have H0:Hid (Cfg w w.heap.size c (w.alloc (.cells (cfC c) 24))):=Cfg.new w c
 have p4:=H0.out.own.c4
 by_cases h0:1<=i
 ·have hN:keyB c i=decide (i<=c.k):=by simp[keyB,h0]
  rw[hN]
  clear hN
  by_cases h1:i<=c.k
  all_goals
   simp only[h1,decide_true,decide_false]
   go_enter Tryz.func126,Tryz.ntmps126
   go_wp2
   go_ret
   exact⟨by first|rfl|(simp;done)|(simp;omega),H0.out.bel⟩
 ·rw[show keyB c i=false by simp[keyB,h0]]
  go_enter Tryz.func126,Tryz.ntmps126
  go_wp2
  go_ret
  exact⟨by first|rfl|(simp;done)|(simp;omega),H0.out.bel⟩
theorem isslot_ok (w:World)(c:Cf)(sl:Int):Calls Tryz.prog 123 #[.agg (cfC c),.int .i64 sl] w λe w'=>e=.returned (.bool (sltB c sl))/\Below w.heap.size w w':=by
 have H0:Hid (Cfg w w.heap.size c (w.alloc (.cells (cfC c) 24))):=Cfg.new w c
 have p4:=H0.out.own.c0
 by_cases h0:0<=sl
 ·have hN:sltB c sl=decide (sl<c.n):=by simp[sltB,h0]
  rw[hN]
  clear hN
  by_cases h1:sl<c.n
  all_goals
   simp only[h1,decide_true,decide_false]
   go_enter Tryz.func123,Tryz.ntmps123
   go_wp2
   go_ret
   exact⟨by first|rfl|(simp;done)|(simp;omega),H0.out.bel⟩
 ·rw[show sltB c sl=false by simp[sltB,h0]]
  go_enter Tryz.func123,Tryz.ntmps123
  go_wp2
  go_ret
  exact⟨by first|rfl|(simp;done)|(simp;omega),H0.out.bel⟩
theorem since_ok (w:World)(c:Cf)(st r:Int):Calls Tryz.prog 125 #[.agg (cfC c),.int .i64 st,.int .i64 r] w λe w'=>e=.returned (sinV c st r)/\Below w.heap.size w w':=by
 have HL:Hid ((Instr.loadAt 24 (.pointer (some ⟨w.heap.size,0,none⟩))).run Tryz.prog (w.alloc (.cells (cfC c) 24))=.ok (.agg (cfC c)) (w.alloc (.cells (cfC c) 24))):=(CfAt.new w c).loads
 have K1:=scheck_ok (w.alloc (.cells (cfC c) 24)) c
 have H0:Hid (Cfg w w.heap.size c (w.alloc (.cells (cfC c) 24))):=Cfg.new w c
 have K2:=λW=>isround_ok W st
 have K3:=λW=>isround_ok W r
 cases ho:okB c
 case false=>
  rw[ho,if_neg Bool.false_ne_true] at K1
  rw[sinV,if_neg (by simp[sinB,ho])]
  clear ho K2 K3
  go_enter Tryz.func125,Tryz.ntmps125
  go_wp2_with (first|(refine wpList_gload_run rfl 24 _ rfl _ _ rfl HL.out ?_)|fail)
  refine K1.mono ?_
  rintro e w1 ⟨rfl,hb⟩
  have H1:Hid (Cfg w w.heap.size c w1):=H0.out.step hb
  clear K1 HL H0 hb
  go_wp2
  go_ret2
  exact⟨rfl,H1.out.bel⟩
 rw[ho,if_pos rfl] at K1
 cases h2:roundB st
 case false=>
  rw[h2] at K2
  have K2':Hid (∀ W,Calls Tryz.prog 155 #[.int .i64 st] W λe w'=>e=.returned (.bool false)/\w'=W):=K2
  rw[sinV,if_neg (by simp[sinB,h2])]
  clear ho h2 K2 K3
  go_enter Tryz.func125,Tryz.ntmps125
  go_wp2_with (first|(refine wpList_gload_run rfl 24 _ rfl _ _ rfl HL.out ?_)|fail)
  refine K1.mono ?_
  rintro e w1 ⟨rfl,hb⟩
  have H1:Hid (Cfg w w.heap.size c w1):=H0.out.step hb
  clear K1 HL H0 hb
  go_wp2_with fail
  refine(K2'.out _).mono ?_
  rintro e w2 ⟨rfl,rfl⟩
  clear K2'
  go_wp2
  go_ret2
  exact⟨rfl,H1.out.bel⟩
 rw[h2] at K2
 have K2':Hid (∀ W,Calls Tryz.prog 155 #[.int .i64 st] W λe w'=>e=.returned (.bool true)/\w'=W):=K2
 cases h3:roundB r
 case false=>
  rw[h3] at K3
  have K3':Hid (∀ W,Calls Tryz.prog 155 #[.int .i64 r] W λe w'=>e=.returned (.bool false)/\w'=W):=K3
  rw[sinV,if_neg (by simp[sinB,h3])]
  clear ho h2 h3 K2 K3
  go_enter Tryz.func125,Tryz.ntmps125
  go_wp2_with (first|(refine wpList_gload_run rfl 24 _ rfl _ _ rfl HL.out ?_)|fail)
  refine K1.mono ?_
  rintro e w1 ⟨rfl,hb⟩
  have H1:Hid (Cfg w w.heap.size c w1):=H0.out.step hb
  clear K1 HL H0 hb
  go_wp2_with fail
  refine(K2'.out _).mono ?_
  rintro e w2 ⟨rfl,rfl⟩
  clear K2'
  go_wp2_with fail
  refine(K3'.out _).mono ?_
  rintro e w3 ⟨rfl,rfl⟩
  clear K3'
  go_wp2
  go_ret2
  exact⟨rfl,H1.out.bel⟩
 rw[h3] at K3
 have K3':Hid (∀ W,Calls Tryz.prog 155 #[.int .i64 r] W λe w'=>e=.returned (.bool true)/\w'=W):=K3
 have hs:sinB c st r=true:=by simp[sinB,ho,h2,h3]
 rw[sinV,if_pos hs]
 obtain⟨_,hst,hr⟩:=sin_in hs
 obtain⟨A,hA⟩:∃ A,A=r-st:=⟨_,rfl⟩
 have e1:IntKind.i64.wrap (r-st)=A:=by rw[hA];exact wrap_in (by omega) (by omega)
 rw[<-hA]
 clear ho h2 h3 K2 K3 hs hst hr hA
 go_enter Tryz.func125,Tryz.ntmps125
 go_wp2_with (first|(refine wpList_gload_run rfl 24 _ rfl _ _ rfl HL.out ?_)|fail)
 refine K1.mono ?_
 rintro e w1 ⟨rfl,hb⟩
 have H1:Hid (Cfg w w.heap.size c w1):=H0.out.step hb
 clear K1 HL H0 hb
 go_wp2_with fail
 refine(K2'.out _).mono ?_
 rintro e w2 ⟨rfl,rfl⟩
 clear K2'
 go_wp2_with fail
 refine(K3'.out _).mono ?_
 rintro e w3 ⟨rfl,rfl⟩
 clear K3'
 go_wp2
 go_ret2
 exact⟨rfl,H1.out.bel⟩
theorem dindex_ok (w:World)(c:Cf)(st r:Int):Calls Tryz.prog 85 #[.agg (cfC c),.int .i64 st,.int .i64 r] w λe w'=>e=.returned (idxV c st r)/\Below w.heap.size w w':=by
 have HL:Hid ((Instr.loadAt 24 (.pointer (some ⟨w.heap.size,0,none⟩))).run Tryz.prog (w.alloc (.cells (cfC c) 24))=.ok (.agg (cfC c)) (w.alloc (.cells (cfC c) 24))):=(CfAt.new w c).loads
 have K1:=since_ok (w.alloc (.cells (cfC c) 24)) c st r
 have H0:Hid (Cfg w w.heap.size c (w.alloc (.cells (cfC c) 24))):=Cfg.new w c
 have K2:=λW=>iskey_ok W c (r-st)
 unfold sinV at K1
 unfold idxV
 cases hs:sinB c st r
 case false=>
  rw[hs,if_neg Bool.false_ne_true] at K1
  rw[if_neg Bool.false_ne_true]
  clear hs K2
  go_enter Tryz.func85,Tryz.ntmps85
  go_wp2_with (first|(refine wpList_gload_run rfl 24 _ rfl _ _ rfl HL.out ?_)|fail)
  refine K1.mono ?_
  rintro e w1 ⟨rfl,hb⟩
  have H1:Hid (Cfg w w.heap.size c w1):=H0.out.step hb
  clear K1 HL H0 hb
  go_wp2
  go_ret2
  exact⟨rfl,H1.out.bel⟩
 rw[hs,if_pos rfl] at K1
 rw[if_pos rfl]
 clear hs
 generalize r-st=A at *
 generalize keyB c A=b at *
 have K2':Hid (∀ W,Calls Tryz.prog 126 #[.agg (cfC c),.int .i64 A] W λe w'=>e=.returned (.bool b)/\Below W.heap.size W w'):=K2
 clear K2
 go_enter Tryz.func85,Tryz.ntmps85
 go_wp2_with (first|(refine wpList_gload_run rfl 24 _ rfl _ _ rfl HL.out ?_)|fail)
 refine K1.mono ?_
 rintro e w1 ⟨rfl,hb⟩
 have H1:Hid (Cfg w w.heap.size c w1):=H0.out.step hb
 have HL1:Hid ((Instr.loadAt 24 (.pointer (some ⟨w.heap.size,0,none⟩))).run Tryz.prog w1=.ok (.agg (cfC c)) w1):=H1.out.own.loads
 clear K1 HL H0 hb
 go_wp2_with (first|(refine wpList_gload_run rfl 24 _ rfl _ _ rfl HL1.out ?_)|fail)
 refine(K2'.out _).mono ?_
 rintro e w2 ⟨rfl,hb⟩
 have H2:Hid (Cfg w w.heap.size c w2):=H1.out.step hb
 clear K2' HL1 H1 hb
 cases b
 all_goals
  go_wp2
  go_ret2
  exact⟨rfl,H2.out.bel⟩
def whV (c:Cf)(sl st i:Int):Value:=if whB c sl st i=true then .tuple #[.int .i64 (whN c sl st i),.int .i64 0] else .tuple #[.int .i64 0,.int .i64 1]
theorem when_ok (w:World)(c:Cf)(sl st i:Int):Calls Tryz.prog 124 #[.agg (cfC c),.int .i64 sl,.int .i64 st,.int .i64 i] w λe w'=>e=.returned (whV c sl st i)/\Below w.heap.size w w':=by
 have HL:Hid ((Instr.loadAt 24 (.pointer (some ⟨w.heap.size,0,none⟩))).run Tryz.prog (w.alloc (.cells (cfC c) 24))=.ok (.agg (cfC c)) (w.alloc (.cells (cfC c) 24))):=(CfAt.new w c).loads
 have K1:=scheck_ok (w.alloc (.cells (cfC c) 24)) c
 have H0:Hid (Cfg w w.heap.size c (w.alloc (.cells (cfC c) 24))):=Cfg.new w c
 have K2:=λW=>isround_ok W st
 have K3:=λW=>iskey_ok W c i
 cases ho:okB c
 case false=>
  rw[ho,if_neg Bool.false_ne_true] at K1
  rw[whV,if_neg (by simp[whB,ho])]
  clear ho K2 K3
  go_enter Tryz.func124,Tryz.ntmps124
  go_wp2_with (first|(refine wpList_gload_run rfl 24 _ rfl _ _ rfl HL.out ?_)|fail)
  refine K1.mono ?_
  rintro e w1 ⟨rfl,hb⟩
  have H1:Hid (Cfg w w.heap.size c w1):=H0.out.step hb
  clear K1 HL H0 hb
  go_wp2
  go_ret2
  exact⟨rfl,H1.out.bel⟩
 rw[ho,if_pos rfl] at K1
 cases h2:roundB st
 case false=>
  rw[h2] at K2
  have K2':Hid (∀ W,Calls Tryz.prog 155 #[.int .i64 st] W λe w'=>e=.returned (.bool false)/\w'=W):=K2
  rw[whV,if_neg (by simp[whB,h2])]
  clear ho h2 K2 K3
  go_enter Tryz.func124,Tryz.ntmps124
  go_wp2_with (first|(refine wpList_gload_run rfl 24 _ rfl _ _ rfl HL.out ?_)|fail)
  refine K1.mono ?_
  rintro e w1 ⟨rfl,hb⟩
  have H1:Hid (Cfg w w.heap.size c w1):=H0.out.step hb
  clear K1 HL H0 hb
  go_wp2_with fail
  refine(K2'.out _).mono ?_
  rintro e w2 ⟨rfl,rfl⟩
  clear K2'
  go_wp2
  go_ret2
  exact⟨rfl,H1.out.bel⟩
 rw[h2] at K2
 have K2':Hid (∀ W,Calls Tryz.prog 155 #[.int .i64 st] W λe w'=>e=.returned (.bool true)/\w'=W):=K2
 cases h3:keyB c i
 case false=>
  rw[h3] at K3
  have K3':Hid (∀ W,Calls Tryz.prog 126 #[.agg (cfC c),.int .i64 i] W λe w'=>e=.returned (.bool false)/\Below W.heap.size W w'):=K3
  rw[whV,if_neg (by simp[whB,h3])]
  clear ho h2 h3 K2 K3
  go_enter Tryz.func124,Tryz.ntmps124
  go_wp2_with (first|(refine wpList_gload_run rfl 24 _ rfl _ _ rfl HL.out ?_)|fail)
  refine K1.mono ?_
  rintro e w1 ⟨rfl,hb⟩
  have H1:Hid (Cfg w w.heap.size c w1):=H0.out.step hb
  have HL1:Hid ((Instr.loadAt 24 (.pointer (some ⟨w.heap.size,0,none⟩))).run Tryz.prog w1=.ok (.agg (cfC c)) w1):=H1.out.own.loads
  clear K1 HL H0 hb
  go_wp2_with fail
  refine(K2'.out _).mono ?_
  rintro e w2 ⟨rfl,rfl⟩
  clear K2'
  go_wp2_with (first|(refine wpList_gload_run rfl 24 _ rfl _ _ rfl HL1.out ?_)|fail)
  refine(K3'.out _).mono ?_
  rintro e w3 ⟨rfl,hb⟩
  have H3:Hid (Cfg w w.heap.size c w3):=H1.out.step hb
  clear K3' HL1 H1 hb
  go_wp2
  go_ret2
  exact⟨rfl,H3.out.bel⟩
 rw[h3] at K3
 have K3':Hid (∀ W,Calls Tryz.prog 126 #[.agg (cfC c),.int .i64 i] W λe w'=>e=.returned (.bool true)/\Below W.heap.size W w'):=K3
 have hv:whV c sl st i=atV c (st+i+c.d) sl:=by
  unfold whV atV whN
  rw[show whB c sl st i=cellB c (st+i+c.d) sl by simp[whB,ho,h2,h3]]
 rw[hv]
 have g:=right_of ho
 have hd0:=g.d0
 have hd1:=g.d1
 have hk1:=g.k1
 have hst:=round_in h2
 have hi:=key_in h3
 obtain⟨A,hA⟩:∃ A,A=st+i:=⟨_,rfl⟩
 obtain⟨B,hB⟩:∃ B,B=st+i+c.d:=⟨_,rfl⟩
 have e1:IntKind.i64.wrap (st+i)=A:=by rw[hA];exact wrap_in (by omega) (by omega)
 have e2:IntKind.i64.wrap (A+c.d)=B:=by rw[hA,hB];exact wrap_in (by omega) (by omega)
 have K4:Hid (∀ W,Calls Tryz.prog 156 #[.agg (cfC c),.int .i64 B,.int .i64 sl] W λe w'=>∃ a b,e=.returned (.tuple #[.int .i64 a,.int .i64 b])/\atV c B sl=.tuple #[.int .i64 a,.int .i64 b]/\Below W.heap.size W w'):=λW=>
  (at_ok W c B sl).mono fun e w' h => by
    obtain ⟨rfl, hb⟩ := h
    cases hc : cellB c B sl
    · exact ⟨0, 1, by simp [atV, hc], by simp [atV, hc], hb⟩
    · exact ⟨_, _, by simp [atV, hc]; exact ⟨rfl, rfl⟩, by simp [atV, hc], hb⟩
 rw[<-hB]
 clear ho h2 h3 K2 K3 hv g hd0 hd1 hk1 hst hi hA hB
 go_enter Tryz.func124,Tryz.ntmps124
 go_wp2_with (first|(refine wpList_gload_run rfl 24 _ rfl _ _ rfl HL.out ?_)|fail)
 refine K1.mono ?_
 rintro e w1 ⟨rfl,hb⟩
 have H1:Hid (Cfg w w.heap.size c w1):=H0.out.step hb
 have HL1:Hid ((Instr.loadAt 24 (.pointer (some ⟨w.heap.size,0,none⟩))).run Tryz.prog w1=.ok (.agg (cfC c)) w1):=H1.out.own.loads
 clear K1 HL H0 hb
 go_wp2_with fail
 refine(K2'.out _).mono ?_
 rintro e w2 ⟨rfl,rfl⟩
 clear K2'
 go_wp2_with (first|(refine wpList_gload_run rfl 24 _ rfl _ _ rfl HL1.out ?_)|fail)
 refine(K3'.out _).mono ?_
 rintro e w3 ⟨rfl,hb⟩
 have H3:Hid (Cfg w w.heap.size c w3):=H1.out.step hb
 have HL3:Hid ((Instr.loadAt 24 (.pointer (some ⟨w.heap.size,0,none⟩))).run Tryz.prog w3=.ok (.agg (cfC c)) w3):=H3.out.own.loads
 have p3:=H3.out.own.c3
 clear K3' HL1 H1 hb
 go_wp2_with (first|(refine wpList_gload_run rfl 24 _ rfl _ _ rfl HL3.out ?_)|fail)
 refine(K4.out _).mono ?_
 rintro e w4 ⟨a,b,rfl,hv,hb⟩
 have H4:Hid (Cfg w w.heap.size c w4):=H3.out.step hb
 have HV:Hid (atV c B sl=.tuple #[.int .i64 a,.int .i64 b]):=hv
 clear K4 HL3 H3 hb hv p3
 go_wp2
 go_ret2
 exact⟨by rw[HV.out];rfl,H4.out.bel⟩
theorem secret_ok (w:World)(c:Cf)(sl st r m:Int):Calls Tryz.prog 84 #[.agg (cfC c),.int .i64 sl,.int .i64 st,.int .i64 r,.int .i64 m] w λe w'=>e=.returned (.int .i64 (rsecN c sl st r m))/\Below w.heap.size w w':=by
 have HL:Hid ((Instr.loadAt 24 (.pointer (some ⟨w.heap.size,0,none⟩))).run Tryz.prog (w.alloc (.cells (cfC c) 24))=.ok (.agg (cfC c)) (w.alloc (.cells (cfC c) 24))):=(CfAt.new w c).loads
 have H0:Hid (Cfg w w.heap.size c (w.alloc (.cells (cfC c) 24))):=Cfg.new w c
 have K0:=isslot_ok (w.alloc (.cells (cfC c) 24)) c sl
 unfold rsecN
 by_cases hsl:0<=sl/\sl<c.n
 case neg=>
  rw[show sltB c sl=false from decide_eq_false hsl] at K0
  rw[if_neg hsl]
  clear hsl
  go_enter Tryz.func84,Tryz.ntmps84
  go_wp2_with (first|(refine wpList_gload_run rfl 24 _ rfl _ _ rfl HL.out ?_)|fail)
  refine K0.mono ?_
  rintro e w1 ⟨rfl,hb⟩
  have H1:Hid (Cfg w w.heap.size c w1):=H0.out.step hb
  clear K0 HL H0 hb
  go_wp2
  go_ret
  exact⟨rfl,H1.out.bel⟩
 rw[show sltB c sl=true from decide_eq_true hsl] at K0
 rw[if_pos hsl]
 clear hsl
 have K1:=λW=>dindex_ok W c st r
 have K2:=λW=>when_ok W c sl st (r-st)
 unfold idxV at K1
 unfold secN
 unfold whV at K2
 generalize sinB c st r=b1 at *
 generalize whN c sl st (r-st)=T at *
 generalize whB c sl st (r-st)=b4 at *
 generalize keyB c (r-st)=b2 at *
 generalize r-st=A at *
 cases b1
 case false=>
  rw[if_neg Bool.false_ne_true] at K1
  have K1:Hid (∀ W,Calls Tryz.prog 85 #[.agg (cfC c),.int .i64 st,.int .i64 r] W λe w'=>e=.returned (.tuple #[.int .i64 0,.int .i64 1])/\Below W.heap.size W w'):=K1
  rw[if_neg Bool.false_ne_true]
  clear K2
  go_enter Tryz.func84,Tryz.ntmps84
  go_wp2_with (first|(refine wpList_gload_run rfl 24 _ rfl _ _ rfl HL.out ?_)|fail)
  refine K0.mono ?_
  rintro e w0 ⟨rfl,hb⟩
  have H00:Hid (Cfg w w.heap.size c w0):=H0.out.step hb
  have HL0:Hid ((Instr.loadAt 24 (.pointer (some ⟨w.heap.size,0,none⟩))).run Tryz.prog w0=.ok (.agg (cfC c)) w0):=H00.out.own.loads
  clear K0 HL H0 hb
  go_wp2_with (first|(refine wpList_gload_run rfl 24 _ rfl _ _ rfl HL0.out ?_)|fail)
  refine(K1.out _).mono ?_
  rintro e w1 ⟨rfl,hb⟩
  have H1:Hid (Cfg w w.heap.size c w1):=H00.out.step hb
  clear K1 HL0 H00 hb
  go_wp2
  go_ret
  exact⟨rfl,H1.out.bel⟩
 rw[if_pos rfl] at K1
 rw[if_pos rfl]
 cases b2
 case false=>
  rw[if_neg Bool.false_ne_true] at K1
  have K1:Hid (∀ W,Calls Tryz.prog 85 #[.agg (cfC c),.int .i64 st,.int .i64 r] W λe w'=>e=.returned (.tuple #[.int .i64 0,.int .i64 6])/\Below W.heap.size W w'):=K1
  rw[if_neg Bool.false_ne_true]
  clear K2
  go_enter Tryz.func84,Tryz.ntmps84
  go_wp2_with (first|(refine wpList_gload_run rfl 24 _ rfl _ _ rfl HL.out ?_)|fail)
  refine K0.mono ?_
  rintro e w0 ⟨rfl,hb⟩
  have H00:Hid (Cfg w w.heap.size c w0):=H0.out.step hb
  have HL0:Hid ((Instr.loadAt 24 (.pointer (some ⟨w.heap.size,0,none⟩))).run Tryz.prog w0=.ok (.agg (cfC c)) w0):=H00.out.own.loads
  clear K0 HL H0 hb
  go_wp2_with (first|(refine wpList_gload_run rfl 24 _ rfl _ _ rfl HL0.out ?_)|fail)
  refine(K1.out _).mono ?_
  rintro e w1 ⟨rfl,hb⟩
  have H1:Hid (Cfg w w.heap.size c w1):=H00.out.step hb
  clear K1 HL0 H00 hb
  go_wp2
  go_ret
  exact⟨rfl,H1.out.bel⟩
 rw[if_pos rfl] at K1
 have K1:Hid (∀ W,Calls Tryz.prog 85 #[.agg (cfC c),.int .i64 st,.int .i64 r] W λe w'=>e=.returned (.tuple #[.int .i64 A,.int .i64 0])/\Below W.heap.size W w'):=K1
 rw[if_pos rfl]
 by_cases hm0:0<=m
 case neg=>
  rw[if_neg (by simp[timeB,hm0])]
  clear K2
  go_enter Tryz.func84,Tryz.ntmps84
  go_wp2_with (first|(refine wpList_gload_run rfl 24 _ rfl _ _ rfl HL.out ?_)|fail)
  refine K0.mono ?_
  rintro e w0 ⟨rfl,hb⟩
  have H00:Hid (Cfg w w.heap.size c w0):=H0.out.step hb
  have HL0:Hid ((Instr.loadAt 24 (.pointer (some ⟨w.heap.size,0,none⟩))).run Tryz.prog w0=.ok (.agg (cfC c)) w0):=H00.out.own.loads
  clear K0 HL H0 hb
  go_wp2_with (first|(refine wpList_gload_run rfl 24 _ rfl _ _ rfl HL0.out ?_)|fail)
  refine(K1.out _).mono ?_
  rintro e w1 ⟨rfl,hb⟩
  have H1:Hid (Cfg w w.heap.size c w1):=H00.out.step hb
  clear K1 HL0 H00 hb
  go_wp2
  go_ret
  exact⟨rfl,H1.out.bel⟩
 by_cases hm1:m<=1099511627776
 case neg=>
  rw[if_neg (by simp[timeB,hm1])]
  clear K2
  go_enter Tryz.func84,Tryz.ntmps84
  go_wp2_with (first|(refine wpList_gload_run rfl 24 _ rfl _ _ rfl HL.out ?_)|fail)
  refine K0.mono ?_
  rintro e w0 ⟨rfl,hb⟩
  have H00:Hid (Cfg w w.heap.size c w0):=H0.out.step hb
  have HL0:Hid ((Instr.loadAt 24 (.pointer (some ⟨w.heap.size,0,none⟩))).run Tryz.prog w0=.ok (.agg (cfC c)) w0):=H00.out.own.loads
  clear K0 HL H0 hb
  go_wp2_with (first|(refine wpList_gload_run rfl 24 _ rfl _ _ rfl HL0.out ?_)|fail)
  refine(K1.out _).mono ?_
  rintro e w1 ⟨rfl,hb⟩
  have H1:Hid (Cfg w w.heap.size c w1):=H00.out.step hb
  clear K1 HL0 H00 hb
  go_wp2
  go_ret
  exact⟨rfl,H1.out.bel⟩
 rw[if_pos (by simp[timeB,hm0,hm1])]
 cases b4
 case false=>
  rw[if_neg Bool.false_ne_true] at K2
  rw[if_neg Bool.false_ne_true]
  have K2':Hid (∀ W,Calls Tryz.prog 124 #[.agg (cfC c),.int .i64 sl,.int .i64 st,.int .i64 A] W λe w'=>e=.returned (.tuple #[.int .i64 0,.int .i64 1])/\Below W.heap.size W w'):=K2
  clear K2
  go_enter Tryz.func84,Tryz.ntmps84
  go_wp2_with (first|(refine wpList_gload_run rfl 24 _ rfl _ _ rfl HL.out ?_)|fail)
  refine K0.mono ?_
  rintro e w0 ⟨rfl,hb⟩
  have H00:Hid (Cfg w w.heap.size c w0):=H0.out.step hb
  have HL0:Hid ((Instr.loadAt 24 (.pointer (some ⟨w.heap.size,0,none⟩))).run Tryz.prog w0=.ok (.agg (cfC c)) w0):=H00.out.own.loads
  clear K0 HL H0 hb
  go_wp2_with (first|(refine wpList_gload_run rfl 24 _ rfl _ _ rfl HL0.out ?_)|fail)
  refine(K1.out _).mono ?_
  rintro e w1 ⟨rfl,hb⟩
  have H1:Hid (Cfg w w.heap.size c w1):=H00.out.step hb
  have HL1:Hid ((Instr.loadAt 24 (.pointer (some ⟨w.heap.size,0,none⟩))).run Tryz.prog w1=.ok (.agg (cfC c)) w1):=H1.out.own.loads
  clear K1 HL0 H00 hb
  go_wp2_with (first|(refine wpList_gload_run rfl 24 _ rfl _ _ rfl HL1.out ?_)|fail)
  refine(K2'.out _).mono ?_
  rintro e w2 ⟨rfl,hb⟩
  have H2:Hid (Cfg w w.heap.size c w2):=H1.out.step hb
  clear K2' HL1 H1 hb
  go_wp2
  go_ret
  exact⟨rfl,H2.out.bel⟩
 rw[if_pos rfl] at K2
 rw[if_pos rfl]
 have K2':Hid (∀ W,Calls Tryz.prog 124 #[.agg (cfC c),.int .i64 sl,.int .i64 st,.int .i64 A] W λe w'=>e=.returned (.tuple #[.int .i64 T,.int .i64 0])/\Below W.heap.size W w'):=K2
 clear K2
 by_cases hT:T<=m
 all_goals
  first|rw[if_pos hT]|rw[if_neg hT]
  go_enter Tryz.func84,Tryz.ntmps84
  go_wp2_with (first|(refine wpList_gload_run rfl 24 _ rfl _ _ rfl HL.out ?_)|fail)
  refine K0.mono ?_
  rintro e w0 ⟨rfl,hb⟩
  have H00:Hid (Cfg w w.heap.size c w0):=H0.out.step hb
  have HL0:Hid ((Instr.loadAt 24 (.pointer (some ⟨w.heap.size,0,none⟩))).run Tryz.prog w0=.ok (.agg (cfC c)) w0):=H00.out.own.loads
  clear K0 HL H0 hb
  go_wp2_with (first|(refine wpList_gload_run rfl 24 _ rfl _ _ rfl HL0.out ?_)|fail)
  refine(K1.out _).mono ?_
  rintro e w1 ⟨rfl,hb⟩
  have H1:Hid (Cfg w w.heap.size c w1):=H00.out.step hb
  have HL1:Hid ((Instr.loadAt 24 (.pointer (some ⟨w.heap.size,0,none⟩))).run Tryz.prog w1=.ok (.agg (cfC c)) w1):=H1.out.own.loads
  clear K1 HL0 H00 hb
  go_wp2_with (first|(refine wpList_gload_run rfl 24 _ rfl _ _ rfl HL1.out ?_)|fail)
  refine(K2'.out _).mono ?_
  rintro e w2 ⟨rfl,hb⟩
  have H2:Hid (Cfg w w.heap.size c w2):=H1.out.step hb
  clear K2' HL1 H1 hb
  go_wp2
  go_ret
  exact⟨rfl,H2.out.bel⟩
end Go.Proofs.YthogohkieiogiaaGreatDoor
