/-
  The contracts of kdf.Pair, and of the document's.
-/
import Derived.Test.YtahnbljbhfpldaaGreatDoorKdfB
namespace Go.Proofs.YtahnbljbhfpldaaGreatDoor
set_option maxHeartbeats 1600000
set_option maxRecDepth 20000
open Go.ChangeShapes Go.WideShapes Go.ChangeAt Go.RowKit
theorem isNode_any (w:World)(i:Int):Calls Tryz.prog 104 #[.int .i64 i] w λe w'=>e=.returned (.bool (nodeP i))/\w'=w:=by
 by_cases h:0<=i
 ·have hE:nodeP i=decide (i<8):=by unfold nodeP;simp[h]
  rw[hE]
  clear hE
  go_enter Tryz.func104,Tryz.ntmps104
  go_wp2
  go_ret
  exact⟨rfl,rfl⟩
 ·have hE:nodeP i=false:=by unfold nodeP;simp;omega
  have d1:decide (0<=i)=false:=by simp;omega
  rw[hE]
  clear hE
  go_enter Tryz.func104,Tryz.ntmps104
  go_wp2
  go_ret
  exact⟨rfl,rfl⟩
theorem pair_any (HKY:KkeyOk)(w:World)(a:Option Addr)(ca:Nat)(key:List UInt8)(i j:Int)(hF:FTab w)(hT:KTab w)(ha:Sees w a ca key):Calls Tryz.prog 67 #[.slice a key.length ca,.int .i64 i,.int .i64 j] w λe w'=>Says w w' e (pairP key i j):=by
 have hno:=isNode_any w i
 have hno2:=isNode_any w j
 by_cases h:nodeP i=true
 ·rw[h] at hno
  by_cases h2:nodeP j=true
  ·rw[h2] at hno2
   by_cases h3:i=j
   ·subst h3
    have hE:pairP key i i=([],1):=by unfold pairP;rw[if_neg (by simp)]
    rw[hE]
    clear hE h h2 ha hF hT
    go_enter Tryz.func67,Tryz.ntmps67
    go_wp2_with fail
    refine hno.mono ?_
    rintro e w1 ⟨rfl,hw1⟩
    rw[hw1]
    clear hw1 w1
    go_wp2_with fail
    refine hno2.mono ?_
    rintro e w1 ⟨rfl,hw1⟩
    rw[hw1]
    clear hw1 w1
    go_wp2
    go_ret2
    exact Says.nothing 1 (Below.refl _ _)
   ·have hi:0<=i/\i<8:=by unfold nodeP at h;simpa using h
    have hj:0<=j/\j<8:=by unfold nodeP at h2;simpa using h2
    obtain⟨n,rfl⟩:∃ n:Nat,i=n:=⟨i.toNat,by omega⟩
    obtain⟨m,rfl⟩:∃ m:Nat,j=m:=⟨j.toNat,by omega⟩
    have HE1:Hid (n<m->pairP key (n:Int) (m:Int)=keyP key pairN [n,m]):=λhlt=>by
     unfold pairP;rw[if_pos ⟨h,h2,h3⟩,Int.min_eq_left (by omega),Int.max_eq_right (by omega)];simp
    have HE2:Hid (m<n->pairP key (n:Int) (m:Int)=keyP key pairN [m,n]):=λhlt=>by
     unfold pairP;rw[if_pos ⟨h,h2,h3⟩,Int.min_eq_right (by omega),Int.max_eq_left (by omega)];simp
    obtain⟨PP,hPP⟩:∃ P,P=pairP key (n:Int) (m:Int):=⟨_,rfl⟩
    rw[<-hPP] at HE1 HE2 ⊢
    have dd:((n:Int)==(m:Int))=false:=by simp;omega
    have hb1:Below w.heap.size w (w.alloc (.cells #[.int .u64 (n:Int),.int .u64 (m:Int)] 38)):=(Below.refl _ _).alloc (Nat.le_refl _) _
    have hb2:Below w.heap.size w (w.alloc (.cells #[.int .u64 (m:Int),.int .u64 (n:Int)] 38)):=(Below.refl _ _).alloc (Nat.le_refl _) _
    have hL1:Longs (w.alloc (.cells #[.int .u64 (n:Int),.int .u64 (m:Int)] 38)) (some ⟨w.heap.size,0,none⟩) 2 [n,m]:=Longs.lit w 38 [n,m] (by simp) (by simp;omega)
    have hL2:Longs (w.alloc (.cells #[.int .u64 (m:Int),.int .u64 (n:Int)] 38)) (some ⟨w.heap.size,0,none⟩) 2 [m,n]:=Longs.lit w 38 [m,n] (by simp) (by simp;omega)
    have hk1:Calls Tryz.prog 105 #[.slice a key.length ca,.string { data:=#[112,97,105,114] },.slice (some ⟨w.heap.size,0,none⟩) 2 2] (w.alloc (.cells #[.int .u64 (n:Int),.int .u64 (m:Int)] 38)) _:=HKY _ a ca key pairN _ 2 [n,m] (by simp[pairN]) (hF.below hb1) (hT.below hb1) (ha.below hb1) hL1
    have hk2:Calls Tryz.prog 105 #[.slice a key.length ca,.string { data:=#[112,97,105,114] },.slice (some ⟨w.heap.size,0,none⟩) 2 2] (w.alloc (.cells #[.int .u64 (m:Int),.int .u64 (n:Int)] 38)) _:=HKY _ a ca key pairN _ 2 [m,n] (by simp[pairN]) (hF.below hb2) (hT.below hb2) (ha.below hb2) hL2
    have h3':n≠m:=by omega
    clear hPP h h2 ha hF hT hL1 hL2 h3
    by_cases hlt:n<m
    ·have HP:Hid (PP=keyP key pairN [n,m]):=HE1.out hlt
     clear HE1 HE2 hk2 hb2
     go_enter Tryz.func67,Tryz.ntmps67
     go_wp2_with fail
     refine hno.mono ?_
     rintro e w1 ⟨rfl,hw1⟩
     rw[hw1]
     clear hw1 w1 hno
     go_wp2_with fail
     refine hno2.mono ?_
     rintro e w1 ⟨rfl,hw1⟩
     rw[hw1]
     clear hw1 w1 hno2
     go_wp2_with fail
     all_goals first|(exfalso;omega)|skip
     refine hk1.mono ?_
     rintro e w5 ⟨d5,c5,r5,hr5,rfl,hs5,hb5⟩
     clear hk1
     rw[<-HP.out] at hr5 ⊢
     go_wp2
     go_ret2
     exact⟨d5,c5,r5,hr5,rfl,hs5,hb1.trans (hb5.mono hb1.size)⟩
    ·have HP:Hid (PP=keyP key pairN [m,n]):=HE2.out (by omega)
     clear HE1 HE2 hk1 hb1
     go_enter Tryz.func67,Tryz.ntmps67
     go_wp2_with fail
     refine hno.mono ?_
     rintro e w1 ⟨rfl,hw1⟩
     rw[hw1]
     clear hw1 w1 hno
     go_wp2_with fail
     refine hno2.mono ?_
     rintro e w1 ⟨rfl,hw1⟩
     rw[hw1]
     clear hw1 w1 hno2
     go_wp2_with fail
     all_goals first|(exfalso;omega)|skip
     refine hk2.mono ?_
     rintro e w5 ⟨d5,c5,r5,hr5,rfl,hs5,hb5⟩
     clear hk2
     rw[<-HP.out] at hr5 ⊢
     go_wp2
     go_ret2
     exact⟨d5,c5,r5,hr5,rfl,hs5,hb2.trans (hb5.mono hb2.size)⟩
  ·have hE:pairP key i j=([],1):=by unfold pairP;rw[if_neg (by simp[h2])]
   rw[hE]
   have hf:nodeP j=false:=by simpa using h2
   rw[hf] at hno2
   clear hE h h2 ha hF hT hf
   go_enter Tryz.func67,Tryz.ntmps67
   go_wp2_with fail
   refine hno.mono ?_
   rintro e w1 ⟨rfl,rfl⟩
   go_wp2_with fail
   refine hno2.mono ?_
   rintro e w1 ⟨rfl,rfl⟩
   go_wp2
   go_ret2
   exact Says.nothing 1 (Below.refl _ _)
 ·have hE:pairP key i j=([],1):=by unfold pairP;rw[if_neg (by simp[h])]
  rw[hE]
  have hf:nodeP i=false:=by simpa using h
  rw[hf] at hno
  clear hE h ha hF hT hf hno2
  go_enter Tryz.func67,Tryz.ntmps67
  go_wp2_with fail
  refine hno.mono ?_
  rintro e w1 ⟨rfl,rfl⟩
  go_wp2
  go_ret2
  exact Says.nothing 1 (Below.refl _ _)
theorem node_any (w:World)(i:Int):Calls Tryz.prog 62 #[.int .i64 i] w λe w'=>e=.returned (.bool (nodeP i))/\w'=w:=by
 by_cases h:0<=i
 ·have hE:nodeP i=decide (i<8):=by unfold nodeP;simp[h]
  rw[hE]
  clear hE
  go_enter Tryz.func62,Tryz.ntmps62
  go_wp2
  go_ret
  exact⟨rfl,rfl⟩
 ·have hE:nodeP i=false:=by unfold nodeP;simp;omega
  have d1:decide (0<=i)=false:=by simp;omega
  rw[hE]
  clear hE
  go_enter Tryz.func62,Tryz.ntmps62
  go_wp2
  go_ret
  exact⟨rfl,rfl⟩
theorem rpair_any (w:World)(a:Option Addr)(ca:Nat)(key:List UInt8)(i j:Int)(ha:Sees w a ca key):Calls Tryz.prog 36 #[.slice a key.length ca,.int .i64 i,.int .i64 j] w λe w'=>Says w w' e (pairP key i j):=by
 have hno:=node_any w i
 have hno2:=node_any w j
 by_cases h:nodeP i=true
 ·rw[h] at hno
  by_cases h2:nodeP j=true
  ·rw[h2] at hno2
   by_cases h3:i=j
   ·subst h3
    have hE:pairP key i i=([],1):=by unfold pairP;rw[if_neg (by simp)]
    rw[hE]
    clear hE h h2 ha
    go_enter Tryz.func36,Tryz.ntmps36
    go_wp2_with fail
    refine hno.mono ?_
    rintro e w1 ⟨rfl,hw1⟩
    rw[hw1]
    clear hw1 w1
    go_wp2_with fail
    refine hno2.mono ?_
    rintro e w1 ⟨rfl,hw1⟩
    rw[hw1]
    clear hw1 w1
    go_wp2
    go_ret2
    exact Says.nothing 1 (Below.refl _ _)
   ·have hi:0<=i/\i<8:=by unfold nodeP at h;simpa using h
    have hj:0<=j/\j<8:=by unfold nodeP at h2;simpa using h2
    obtain⟨n,rfl⟩:∃ n:Nat,i=n:=⟨i.toNat,by omega⟩
    obtain⟨m,rfl⟩:∃ m:Nat,j=m:=⟨j.toNat,by omega⟩
    have HE1:Hid (n<m->pairP key (n:Int) (m:Int)=keyP key pairN [n,m]):=λhlt=>by
     unfold pairP;rw[if_pos ⟨h,h2,h3⟩,Int.min_eq_left (by omega),Int.max_eq_right (by omega)];simp
    have HE2:Hid (m<n->pairP key (n:Int) (m:Int)=keyP key pairN [m,n]):=λhlt=>by
     unfold pairP;rw[if_pos ⟨h,h2,h3⟩,Int.min_eq_right (by omega),Int.max_eq_left (by omega)];simp
    obtain⟨PP,hPP⟩:∃ P,P=pairP key (n:Int) (m:Int):=⟨_,rfl⟩
    rw[<-hPP] at HE1 HE2 ⊢
    have dd:((n:Int)==(m:Int))=false:=by simp;omega
    have hb1:Below w.heap.size w (w.alloc (.cells #[.int .u64 (n:Int),.int .u64 (m:Int)] 38)):=(Below.refl _ _).alloc (Nat.le_refl _) _
    have hb2:Below w.heap.size w (w.alloc (.cells #[.int .u64 (m:Int),.int .u64 (n:Int)] 38)):=(Below.refl _ _).alloc (Nat.le_refl _) _
    have hL1:Longs (w.alloc (.cells #[.int .u64 (n:Int),.int .u64 (m:Int)] 38)) (some ⟨w.heap.size,0,none⟩) 2 [n,m]:=Longs.lit w 38 [n,m] (by simp) (by simp;omega)
    have hL2:Longs (w.alloc (.cells #[.int .u64 (m:Int),.int .u64 (n:Int)] 38)) (some ⟨w.heap.size,0,none⟩) 2 [m,n]:=Longs.lit w 38 [m,n] (by simp) (by simp;omega)
    have hk1:Calls Tryz.prog 63 #[.slice a key.length ca,.string { data:=#[112,97,105,114] },.slice (some ⟨w.heap.size,0,none⟩) 2 2] (w.alloc (.cells #[.int .u64 (n:Int),.int .u64 (m:Int)] 38)) _:=rkey_any _ a ca key pairN (by simp[pairN]) _ 2 [n,m] (ha.below hb1) hL1
    have hk2:Calls Tryz.prog 63 #[.slice a key.length ca,.string { data:=#[112,97,105,114] },.slice (some ⟨w.heap.size,0,none⟩) 2 2] (w.alloc (.cells #[.int .u64 (m:Int),.int .u64 (n:Int)] 38)) _:=rkey_any _ a ca key pairN (by simp[pairN]) _ 2 [m,n] (ha.below hb2) hL2
    have h3':n≠m:=by omega
    clear hPP h h2 ha hL1 hL2 h3
    by_cases hlt:n<m
    ·have HP:Hid (PP=keyP key pairN [n,m]):=HE1.out hlt
     clear HE1 HE2 hk2 hb2
     go_enter Tryz.func36,Tryz.ntmps36
     go_wp2_with fail
     refine hno.mono ?_
     rintro e w1 ⟨rfl,hw1⟩
     rw[hw1]
     clear hw1 w1 hno
     go_wp2_with fail
     refine hno2.mono ?_
     rintro e w1 ⟨rfl,hw1⟩
     rw[hw1]
     clear hw1 w1 hno2
     go_wp2_with fail
     all_goals first|(exfalso;omega)|skip
     refine hk1.mono ?_
     rintro e w5 ⟨d5,c5,r5,hr5,rfl,hs5,hb5⟩
     clear hk1
     rw[<-HP.out] at hr5 ⊢
     go_wp2
     go_ret2
     exact⟨d5,c5,r5,hr5,rfl,hs5,hb1.trans (hb5.mono hb1.size)⟩
    ·have HP:Hid (PP=keyP key pairN [m,n]):=HE2.out (by omega)
     clear HE1 HE2 hk1 hb1
     go_enter Tryz.func36,Tryz.ntmps36
     go_wp2_with fail
     refine hno.mono ?_
     rintro e w1 ⟨rfl,hw1⟩
     rw[hw1]
     clear hw1 w1 hno
     go_wp2_with fail
     refine hno2.mono ?_
     rintro e w1 ⟨rfl,hw1⟩
     rw[hw1]
     clear hw1 w1 hno2
     go_wp2_with fail
     all_goals first|(exfalso;omega)|skip
     refine hk2.mono ?_
     rintro e w5 ⟨d5,c5,r5,hr5,rfl,hs5,hb5⟩
     clear hk2
     rw[<-HP.out] at hr5 ⊢
     go_wp2
     go_ret2
     exact⟨d5,c5,r5,hr5,rfl,hs5,hb2.trans (hb5.mono hb2.size)⟩
  ·have hE:pairP key i j=([],1):=by unfold pairP;rw[if_neg (by simp[h2])]
   rw[hE]
   have hf:nodeP j=false:=by simpa using h2
   rw[hf] at hno2
   clear hE h h2 ha hf
   go_enter Tryz.func36,Tryz.ntmps36
   go_wp2_with fail
   refine hno.mono ?_
   rintro e w1 ⟨rfl,rfl⟩
   go_wp2_with fail
   refine hno2.mono ?_
   rintro e w1 ⟨rfl,rfl⟩
   go_wp2
   go_ret2
   exact Says.nothing 1 (Below.refl _ _)
 ·have hE:pairP key i j=([],1):=by unfold pairP;rw[if_neg (by simp[h])]
  rw[hE]
  have hf:nodeP i=false:=by simpa using h
  rw[hf] at hno
  clear hE h ha hf hno2
  go_enter Tryz.func36,Tryz.ntmps36
  go_wp2_with fail
  refine hno.mono ?_
  rintro e w1 ⟨rfl,rfl⟩
  go_wp2
  go_ret2
  exact Says.nothing 1 (Below.refl _ _)
theorem pair_ok:∀ (w:World) (a:Option Addr) (ca:Nat) (key:List UInt8) (i j:Int),FTab w->KTab w->Sees w a ca key->Calls Tryz.prog 67 #[.slice a key.length ca,.int .i64 i,.int .i64 j] w λe w'=>Says w w' e (pairP key i j):=pair_any key_ok
end Go.Proofs.YtahnbljbhfpldaaGreatDoor
