/-
  The program's isFor, pair and sealed.
-/
import Derived.Test.YthogohkieiogiaaGreatDoorPeN
namespace Go.Proofs.YthogohkieiogiaaGreatDoor
set_option maxHeartbeats 1600000
set_option maxRecDepth 20000
open Go.ChangeShapes Go.WideShapes Go.ChangeAt Go.RowKit
theorem isNode_any (w:World)(i:Int):Calls Tryz.prog 92 #[.int .i64 i] w λe w'=>e=.returned (.bool (nodeP i))/\w'=w:=by
 by_cases h:0<=i
 ·have hE:nodeP i=decide (i<8):=by unfold nodeP;simp[h]
  rw[hE]
  clear hE
  go_enter Tryz.func92,Tryz.ntmps92
  go_wp2
  go_ret
  exact⟨rfl,rfl⟩
 ·have hE:nodeP i=false:=by unfold nodeP;simp;omega
  have d1:decide (0<=i)=false:=by simp;omega
  rw[hE]
  clear hE
  go_enter Tryz.func92,Tryz.ntmps92
  go_wp2
  go_ret
  exact⟨rfl,rfl⟩
theorem pair_any (HKY:KkeyOk)(w:World)(a:Option Addr)(ca:Nat)(key:List UInt8)(i j:Int)(hF:FTab w)(hT:KTab w)(ha:Sees w a ca key):Calls Tryz.prog 59 #[.slice a key.length ca,.int .i64 i,.int .i64 j] w λe w'=>Says w w' e (pairP key i j):=by
 have hno:=isNode_any w i
 have hno2:=isNode_any w j
 by_cases h:nodeP i=true
 ·rw[h] at hno
  by_cases h2:nodeP j=true
  ·rw[h2] at hno2
   by_cases h3:i=j
   ·subst h3
    have hE:pairP key i i=([],1):=by unfold pairP;rw[if_neg (by simp)]
    rw[hE]
    clear hE h h2 ha hF hT
    go_enter Tryz.func59,Tryz.ntmps59
    go_wp2_with fail
    refine hno.mono ?_
    rintro e w1 ⟨rfl,hw1⟩
    rw[hw1]
    clear hw1 w1
    go_wp2_with fail
    refine hno2.mono ?_
    rintro e w1 ⟨rfl,hw1⟩
    rw[hw1]
    clear hw1 w1
    go_wp2
    go_ret2
    exact Says.nothing 1 (Below.refl _ _)
   ·have hi:0<=i/\i<8:=by unfold nodeP at h;simpa using h
    have hj:0<=j/\j<8:=by unfold nodeP at h2;simpa using h2
    obtain⟨n,rfl⟩:∃ n:Nat,i=n:=⟨i.toNat,by omega⟩
    obtain⟨m,rfl⟩:∃ m:Nat,j=m:=⟨j.toNat,by omega⟩
    have HE1:Hid (n<m->pairP key (n:Int) (m:Int)=keyP key pairN [n,m]):=λhlt=>by
     unfold pairP;rw[if_pos ⟨h,h2,h3⟩,Int.min_eq_left (by omega),Int.max_eq_right (by omega)];simp
    have HE2:Hid (m<n->pairP key (n:Int) (m:Int)=keyP key pairN [m,n]):=λhlt=>by
     unfold pairP;rw[if_pos ⟨h,h2,h3⟩,Int.min_eq_right (by omega),Int.max_eq_left (by omega)];simp
    obtain⟨PP,hPP⟩:∃ P,P=pairP key (n:Int) (m:Int):=⟨_,rfl⟩
    rw[<-hPP] at HE1 HE2 ⊢
    have dd:((n:Int)==(m:Int))=false:=by simp;omega
    have hb1:Below w.heap.size w (w.alloc (.cells #[.int .u64 (n:Int),.int .u64 (m:Int)] 39)):=(Below.refl _ _).alloc (Nat.le_refl _) _
    have hb2:Below w.heap.size w (w.alloc (.cells #[.int .u64 (m:Int),.int .u64 (n:Int)] 39)):=(Below.refl _ _).alloc (Nat.le_refl _) _
    have hL1:Longs (w.alloc (.cells #[.int .u64 (n:Int),.int .u64 (m:Int)] 39)) (some ⟨w.heap.size,0,none⟩) 2 [n,m]:=Longs.lit w 39 [n,m] (by simp) (by simp;omega)
    have hL2:Longs (w.alloc (.cells #[.int .u64 (m:Int),.int .u64 (n:Int)] 39)) (some ⟨w.heap.size,0,none⟩) 2 [m,n]:=Longs.lit w 39 [m,n] (by simp) (by simp;omega)
    have hk1:Calls Tryz.prog 93 #[.slice a key.length ca,.string { data:=#[112,97,105,114] },.slice (some ⟨w.heap.size,0,none⟩) 2 2] (w.alloc (.cells #[.int .u64 (n:Int),.int .u64 (m:Int)] 39)) _:=HKY _ a ca key pairN _ 2 [n,m] (by simp[pairN]) (hF.below hb1) (hT.below hb1) (ha.below hb1) hL1
    have hk2:Calls Tryz.prog 93 #[.slice a key.length ca,.string { data:=#[112,97,105,114] },.slice (some ⟨w.heap.size,0,none⟩) 2 2] (w.alloc (.cells #[.int .u64 (m:Int),.int .u64 (n:Int)] 39)) _:=HKY _ a ca key pairN _ 2 [m,n] (by simp[pairN]) (hF.below hb2) (hT.below hb2) (ha.below hb2) hL2
    have h3':n≠m:=by omega
    clear hPP h h2 ha hF hT hL1 hL2 h3
    by_cases hlt:n<m
    ·have HP:Hid (PP=keyP key pairN [n,m]):=HE1.out hlt
     clear HE1 HE2 hk2 hb2
     go_enter Tryz.func59,Tryz.ntmps59
     go_wp2_with fail
     refine hno.mono ?_
     rintro e w1 ⟨rfl,hw1⟩
     rw[hw1]
     clear hw1 w1 hno
     go_wp2_with fail
     refine hno2.mono ?_
     rintro e w1 ⟨rfl,hw1⟩
     rw[hw1]
     clear hw1 w1 hno2
     go_wp2_with fail
     all_goals first|(exfalso;omega)|skip
     refine hk1.mono ?_
     rintro e w5 ⟨d5,c5,r5,hr5,rfl,hs5,hb5⟩
     clear hk1
     rw[<-HP.out] at hr5 ⊢
     go_wp2
     go_ret2
     exact⟨d5,c5,r5,hr5,rfl,hs5,hb1.trans (hb5.mono hb1.size)⟩
    ·have HP:Hid (PP=keyP key pairN [m,n]):=HE2.out (by omega)
     clear HE1 HE2 hk1 hb1
     go_enter Tryz.func59,Tryz.ntmps59
     go_wp2_with fail
     refine hno.mono ?_
     rintro e w1 ⟨rfl,hw1⟩
     rw[hw1]
     clear hw1 w1 hno
     go_wp2_with fail
     refine hno2.mono ?_
     rintro e w1 ⟨rfl,hw1⟩
     rw[hw1]
     clear hw1 w1 hno2
     go_wp2_with fail
     all_goals first|(exfalso;omega)|skip
     refine hk2.mono ?_
     rintro e w5 ⟨d5,c5,r5,hr5,rfl,hs5,hb5⟩
     clear hk2
     rw[<-HP.out] at hr5 ⊢
     go_wp2
     go_ret2
     exact⟨d5,c5,r5,hr5,rfl,hs5,hb2.trans (hb5.mono hb2.size)⟩
  ·have hE:pairP key i j=([],1):=by unfold pairP;rw[if_neg (by simp[h2])]
   rw[hE]
   have hf:nodeP j=false:=by simpa using h2
   rw[hf] at hno2
   clear hE h h2 ha hF hT hf
   go_enter Tryz.func59,Tryz.ntmps59
   go_wp2_with fail
   refine hno.mono ?_
   rintro e w1 ⟨rfl,rfl⟩
   go_wp2_with fail
   refine hno2.mono ?_
   rintro e w1 ⟨rfl,rfl⟩
   go_wp2
   go_ret2
   exact Says.nothing 1 (Below.refl _ _)
 ·have hE:pairP key i j=([],1):=by unfold pairP;rw[if_neg (by simp[h])]
  rw[hE]
  have hf:nodeP i=false:=by simpa using h
  rw[hf] at hno
  clear hE h ha hF hT hf hno2
  go_enter Tryz.func59,Tryz.ntmps59
  go_wp2_with fail
  refine hno.mono ?_
  rintro e w1 ⟨rfl,rfl⟩
  go_wp2
  go_ret2
  exact Says.nothing 1 (Below.refl _ _)
theorem pair_ok:∀ (w:World) (a:Option Addr) (ca:Nat) (key:List UInt8) (i j:Int),FTab w->KTab w->Sees w a ca key->Calls Tryz.prog 59 #[.slice a key.length ca,.int .i64 i,.int .i64 j] w λe w'=>Says w w' e (pairP key i j):=pair_any key_ok
end Go.Proofs.YthogohkieiogiaaGreatDoor
namespace Go.Proofs.YthogohkieiogiaaGreatDoor
set_option maxRecDepth 20000
set_option maxHeartbeats 3200000
open Go.ChangeShapes Go.WideShapes Go.ChangeAt Go.RowKit
def Ec.forB (s:Ec)(F:Fr)(k:Int):Bool:=decide (F.k=k/\F.t=s.i)&&rightB F
theorem pefor_ok (w:World)(R:Nat)(s:Ec)(ma:Option Addr)(mc:Nat)(h:PEAt w R s ma mc)(F:Fr)(A:At)(hF:Seen w F A)(k:Int):
  Calls Tryz.prog 29 #[.pointer (some ⟨R,0,none⟩),.agg (frC F A),.int .i64 k] w λe w'=>e=.returned (.bool (s.forB F k))/\Below w.heap.size w w':=by
 obtain⟨W,hW⟩:∃ W,W=w.alloc (.cells (frC F A) 41):=⟨_,rfl⟩
 have hb0:Below w.heap.size w W:=by rw[hW];exact Go.Joins.below_alloc1 _ _
 have hfr:FrAt W w.heap.size F A:=by rw[hW];exact FrAt.new w F A
 have H0:Hid (PEAt W R s ma mc/\FrAt W w.heap.size F A/\Below w.heap.size w W/\Seen W F A/\W=w.alloc (.cells (frC F A) 41)):=⟨h.below hb0,hfr,hb0,hF.below hb0,hW⟩
 have HQ:Hid (∀ V,Below W.heap.size W V->((Instr.loadAt 41 (.pointer (some ⟨w.heap.size,0,none⟩))).run Tryz.prog V=.ok (.agg (frC F A)) V/\V.cell? ⟨w.heap.size,0,none⟩=some (.int .i64 F.k)/\V.cell? ⟨w.heap.size,2,none⟩=some (.int .i64 F.t)/\V.cell? ⟨R,11,none⟩=some (.int .i64 s.i))):=λV hV=>
  ⟨(H0.out.2.1.below hV).loads,(H0.out.2.1.below hV).c0,(H0.out.2.1.below hV).c2,(H0.out.1.below hV).cell 11 rfl⟩
 have hS0:=HQ.out W.drew (Below.refl _ _).drew
 have KC:=check_ok W.drew F A (H0.out.2.2.2.1.below (Below.refl _ _).drew)
 clear h hF hW hb0 hfr
 obtain⟨B,hB⟩:∃ B,B=s.forB F k:=⟨_,rfl⟩
 rw[<-hB]
 have HBB:Hid (B=s.forB F k):=hB
 clear hB
 go_enter Tryz.func29,Tryz.ntmps29
 go_upto_region 1 with fail
 rw[<-H0.out.2.2.2.2]
 by_cases hr:rightB F=true
 ·rw[if_pos hr] at KC
  by_cases hk:F.k=k
  ·have hkb:(F.k==k)=true:=by simp[hk]
   by_cases ht:F.t=s.i
   ·have hB:Hid (B=true):=HBB.out.trans (by simp[Ec.forB,hr,hk,ht])
    have htb:(F.t==s.i)=true:=by simp[ht]
    clear hk ht hr
    refine wp_region_noPanic ?_
    refine wp_region_held (S:=λV=>(Instr.loadAt 41 (.pointer (some ⟨w.heap.size,0,none⟩))).run Tryz.prog V=.ok (.agg (frC F A)) V/\V.cell? ⟨w.heap.size,0,none⟩=some (.int .i64 F.k)/\V.cell? ⟨w.heap.size,2,none⟩=some (.int .i64 F.t)/\V.cell? ⟨R,11,none⟩=some (.int .i64 s.i)) (by kernel_rfl) ?_
    have hS:=hS0
    refine tk 0 (v:=Value.agg (frC F A)) (hv:=λW hW=>exec_load 41 (.tmp 4) rfl _ _ rfl hW.1) hS ?_
    refine any_one 1 rfl (by kernel_rfl) (by rfl) (λK hK=>?_)
    clear hS
    go_simp
    refine KC.mono ?_
    rintro ev V ⟨rfl,hb⟩
    have hbV:Below W.heap.size W V:=(Below.refl W.heap.size W).drew.trans hb
    have HQ1:=HQ.out V hbV
    clear hb KC
    refine hK.out _ _ (HQ1) (λhS=>?_)
    clear hK
    (try simp only[Act.put,sT])
    refine tk 2 hS ?_
    refine tk 3 hS ?_
    refine tk 4 hS ?_
    refine tk 5 hS ?_
    refine tk 6 hS ?_
    refine tk 7 (v:=Value.bool true) (hv:=by intro w hSw;(try dsimp only at hSw);go_split_ands;go_simp) hS ?_
    refine tk 8 hS ?_
    refine tk 9 hS ?_
    refine tk 10 hS ?_
    refine tk 11 hS ?_
    refine tk 12 hS ?_
    refine tk 13 hS ?_
    refine tk 14 hS ?_
    refine tk 15 hS ?_
    refine tk 16 (v:=Value.bool true) (hv:=by intro w hSw;(try dsimp only at hSw);go_split_ands;go_simp) hS ?_
    refine tk 17 hS ?_
    refine tk 18 hS ?_
    refine wpAnyH_done (by kernel_rfl) ?_ _
    refine NoPanic.normal ?_
    clear hS hS0 HQ1
    have HE:Hid (Below w.heap.size w V):=H0.out.2.2.1.trans (hbV.mono H0.out.2.2.1.size)
    clear hbV
    go_wp2
    go_ret
    rw[hB.out]
    exact⟨by simp,HE.out⟩
   ·have hB:Hid (B=false):=HBB.out.trans (by simp[Ec.forB,ht])
    have htb:(F.t==s.i)=false:=by simp[ht]
    clear hk ht hr
    refine wp_region_noPanic ?_
    refine wp_region_held (S:=λV=>(Instr.loadAt 41 (.pointer (some ⟨w.heap.size,0,none⟩))).run Tryz.prog V=.ok (.agg (frC F A)) V/\V.cell? ⟨w.heap.size,0,none⟩=some (.int .i64 F.k)/\V.cell? ⟨w.heap.size,2,none⟩=some (.int .i64 F.t)/\V.cell? ⟨R,11,none⟩=some (.int .i64 s.i)) (by kernel_rfl) ?_
    have hS:=hS0
    refine tk 0 (v:=Value.agg (frC F A)) (hv:=λW hW=>exec_load 41 (.tmp 4) rfl _ _ rfl hW.1) hS ?_
    refine any_one 1 rfl (by kernel_rfl) (by rfl) (λK hK=>?_)
    clear hS
    go_simp
    refine KC.mono ?_
    rintro ev V ⟨rfl,hb⟩
    have hbV:Below W.heap.size W V:=(Below.refl W.heap.size W).drew.trans hb
    have HQ1:=HQ.out V hbV
    clear hb KC
    refine hK.out _ _ (HQ1) (λhS=>?_)
    clear hK
    (try simp only[Act.put,sT])
    refine tk 2 hS ?_
    refine tk 3 hS ?_
    refine tk 4 hS ?_
    refine tk 5 hS ?_
    refine tk 6 hS ?_
    refine tk 7 (v:=Value.bool true) (hv:=by intro w hSw;(try dsimp only at hSw);go_split_ands;go_simp) hS ?_
    refine tk 8 hS ?_
    refine tk 9 hS ?_
    refine tk 10 hS ?_
    refine tk 11 hS ?_
    refine tk 12 hS ?_
    refine tk 13 hS ?_
    refine tk 14 hS ?_
    refine tk 15 hS ?_
    refine tk 16 (v:=Value.bool false) (hv:=by intro w hSw;(try dsimp only at hSw);go_split_ands;go_simp) hS ?_
    refine tk 17 hS ?_
    refine tk 18 hS ?_
    refine wpAnyH_done (by kernel_rfl) ?_ _
    refine NoPanic.normal ?_
    clear hS hS0 HQ1
    have HE:Hid (Below w.heap.size w V):=H0.out.2.2.1.trans (hbV.mono H0.out.2.2.1.size)
    clear hbV
    go_wp2
    go_ret
    rw[hB.out]
    exact⟨by simp,HE.out⟩
  ·have hB:Hid (B=false):=HBB.out.trans (by simp[Ec.forB,hk])
   have hkb:(F.k==k)=false:=by simp[hk]
   clear hk hr
   refine wp_region_noPanic ?_
   refine wp_region_held (S:=λV=>(Instr.loadAt 41 (.pointer (some ⟨w.heap.size,0,none⟩))).run Tryz.prog V=.ok (.agg (frC F A)) V/\V.cell? ⟨w.heap.size,0,none⟩=some (.int .i64 F.k)/\V.cell? ⟨w.heap.size,2,none⟩=some (.int .i64 F.t)/\V.cell? ⟨R,11,none⟩=some (.int .i64 s.i)) (by kernel_rfl) ?_
   have hS:=hS0
   refine tk 0 (v:=Value.agg (frC F A)) (hv:=λW hW=>exec_load 41 (.tmp 4) rfl _ _ rfl hW.1) hS ?_
   refine any_one 1 rfl (by kernel_rfl) (by rfl) (λK hK=>?_)
   clear hS
   go_simp
   refine KC.mono ?_
   rintro ev V ⟨rfl,hb⟩
   have hbV:Below W.heap.size W V:=(Below.refl W.heap.size W).drew.trans hb
   have HQ1:=HQ.out V hbV
   clear hb KC
   refine hK.out _ _ (HQ1) (λhS=>?_)
   clear hK
   (try simp only[Act.put,sT])
   refine tk 2 hS ?_
   refine tk 3 hS ?_
   refine tk 4 hS ?_
   refine tk 5 hS ?_
   refine tk 6 hS ?_
   refine tk 7 (v:=Value.bool false) (hv:=by intro w hSw;(try dsimp only at hSw);go_split_ands;go_simp) hS ?_
   refine tk 8 hS ?_
   refine tk 9 hS ?_
   refine tq 10 hS ?_
   refine tq 11 hS ?_
   refine tq 12 hS ?_
   refine tq 13 hS ?_
   refine tq 14 hS ?_
   refine tq 15 hS ?_
   refine tq 16 hS ?_
   refine tk 17 hS ?_
   refine tk 18 hS ?_
   refine wpAnyH_done (by kernel_rfl) ?_ _
   refine NoPanic.normal ?_
   clear hS hS0 HQ1
   have HE:Hid (Below w.heap.size w V):=H0.out.2.2.1.trans (hbV.mono H0.out.2.2.1.size)
   clear hbV
   go_wp2
   go_ret
   rw[hB.out]
   exact⟨by simp,HE.out⟩
 ·have hB:Hid (B=false):=HBB.out.trans (by simp[Ec.forB,hr])
  rw[if_neg hr] at KC
  clear hr
  refine wp_region_noPanic ?_
  refine wp_region_held (S:=λV=>(Instr.loadAt 41 (.pointer (some ⟨w.heap.size,0,none⟩))).run Tryz.prog V=.ok (.agg (frC F A)) V/\V.cell? ⟨w.heap.size,0,none⟩=some (.int .i64 F.k)/\V.cell? ⟨w.heap.size,2,none⟩=some (.int .i64 F.t)/\V.cell? ⟨R,11,none⟩=some (.int .i64 s.i)) (by kernel_rfl) ?_
  have hS:=hS0
  refine tk 0 (v:=Value.agg (frC F A)) (hv:=λW hW=>exec_load 41 (.tmp 4) rfl _ _ rfl hW.1) hS ?_
  refine any_one 1 rfl (by kernel_rfl) (by rfl) (λK hK=>?_)
  clear hS
  go_simp
  refine KC.mono ?_
  rintro ev V ⟨rfl,hb⟩
  have hbV:Below W.heap.size W V:=(Below.refl W.heap.size W).drew.trans hb
  have HQ1:=HQ.out V hbV
  clear hb KC
  refine hK.out _ _ (HQ1) (λhS=>?_)
  clear hK
  (try simp only[Act.put,sT])
  refine tk 2 hS ?_
  refine tk 3 hS ?_
  refine tq 4 hS ?_
  refine tq 5 hS ?_
  refine tq 6 hS ?_
  refine tq 7 hS ?_
  refine tk 8 hS ?_
  refine tk 9 hS ?_
  refine tq 10 hS ?_
  refine tq 11 hS ?_
  refine tq 12 hS ?_
  refine tq 13 hS ?_
  refine tq 14 hS ?_
  refine tq 15 hS ?_
  refine tq 16 hS ?_
  refine tk 17 hS ?_
  refine tk 18 hS ?_
  refine wpAnyH_done (by kernel_rfl) ?_ _
  refine NoPanic.normal ?_
  clear hS hS0 HQ1
  have HE:Hid (Below w.heap.size w V):=H0.out.2.2.1.trans (hbV.mono H0.out.2.2.1.size)
  clear hbV
  go_wp2
  go_ret
  rw[hB.out]
  exact⟨by simp,HE.out⟩
theorem pepair_ok (w:World)(R:Nat)(s:Ec)(ma:Option Addr)(mc:Nat)(h:PEAll w R s ma mc)(hT:Tabs w)(jj:Int):
  Calls Tryz.prog 31 #[.pointer (some ⟨R,0,none⟩),.int .i64 jj] w λe w'=>∃ d cd,e=.returned (.slice d (pairK s.ms s.i jj).length cd)/\Sees w' d cd (pairK s.ms s.i jj)/\Below w.heap.size w w':=by
 obtain⟨KK,hKK⟩:∃ KK,KK=pairK s.ms s.i jj:=⟨_,rfl⟩
 rw[<-hKK]
 obtain⟨ml,hml⟩:∃ ml,ml=s.ms.length:=⟨_,rfl⟩
 have H0:Hid (PEAll w R s ma mc/\ml=s.ms.length):=⟨h,hml⟩
 have HQ:Hid (∀ V,Below w.heap.size w V->(V.cell? ⟨R,10,none⟩=some (.slice ma ml mc)/\V.cell? ⟨R,11,none⟩=some (.int .i64 s.i))):=λV hV=>by
  rw[H0.out.2]
  exact⟨(H0.out.1.at'.below hV).cell 10 rfl,(H0.out.1.at'.below hV).cell 11 rfl⟩
 have hS0:=HQ.out w.drew (Below.refl _ _).drew
 have KP:Calls Tryz.prog 59 #[.slice ma ml mc,.int .i64 s.i,.int .i64 jj] w.drew λe w'=>∃ d cd kn,e=.returned (.tuple #[.slice d KK.length cd,.int .i64 kn])/\Sees w' d cd KK/\Below w.heap.size w w':=by
  have hd:Below w.heap.size w w.drew:=(Below.refl _ _).drew
  have hT2:=hT.below hd
  rw[hml]
  refine(pair_ok w.drew ma mc s.ms s.i jj hT2.1 hT2.2 (h.ms.below hd)).mono ?_
  rintro e w' ⟨d,cd,r,hr,rfl,hs,hb⟩
  have hr':r=KK:=hr.out.trans hKK.symm
  subst hr'
  exact⟨d,cd,_,rfl,hs,hd.trans hb⟩
 clear h hT hKK hml
 go_enter Tryz.func31,Tryz.ntmps31
 go_upto_region 1 with fail
 refine wp_region_noPanic ?_
 refine wp_region_held (S:=λV=>V.cell? ⟨R,10,none⟩=some (.slice ma ml mc)/\V.cell? ⟨R,11,none⟩=some (.int .i64 s.i)) (by kernel_rfl) ?_
 have hS:=hS0
 refine tk 0 hS ?_
 refine tk 1 hS ?_
 refine tk 2 hS ?_
 refine tk 3 hS ?_
 refine tk 4 hS ?_
 refine tk 5 hS ?_
 refine tk 6 hS ?_
 refine tk 7 hS ?_
 refine tk 8 hS ?_
 refine any_one 9 rfl (by kernel_rfl) (by rfl) (λK hK=>?_)
 clear hS
 go_simp
 refine KP.mono ?_
 rintro ev V ⟨d3,c3,k3,rfl,hs3,hb3⟩
 have HQ1:=HQ.out V hb3
 have H3:Hid (Sees V d3 c3 KK/\Below w.heap.size w V):=⟨hs3,hb3⟩
 clear hs3 hb3 KP
 refine hK.out _ _ (HQ1) (λhS=>?_)
 clear hK
 (try simp only[Act.put,sT])
 refine tk 10 hS ?_
 refine tk 11 hS ?_
 refine tk 12 hS ?_
 refine tk 13 hS ?_
 refine tk 14 hS ?_
 refine wpAnyH_done (by kernel_rfl) ?_ _
 refine NoPanic.normal ?_
 clear hS hS0 HQ1
 go_wp2
 go_ret
 exact⟨d3,c3,by simp,H3.out⟩
theorem pestore_int (w:World)(a:Addr)(old:Value)(x:Int)(hc:w.cell? a=some old)(hf:w.frozen? a=false):(Instr.storeAt 3 (.pointer (some a)) (.int .i64 x)).run Tryz.prog w=.ok () (w.setCell a (.int .i64 x)):=by
 go_simp
theorem pesealed_ok (w:World)(R:Nat)(s:Ec)(ma:Option Addr)(mc:Nat)(h:PEAll w R s ma mc)(hT:Tabs w)(F:Fr)(A:At)(hF:Seen w F A)(hn:F.n<18446744073709551616)(l:List UInt8)(n:Int)(hL:l=sealR (pairK s.ms s.i F.t) { F with f:=s.i })(hN:n=tagE (pairK s.ms s.i F.t) { F with f:=s.i }):
  Calls Tryz.prog 28 #[.pointer (some ⟨R,0,none⟩),.agg (frC F A)] w λe w'=>FTells w w' e l n:=by
 obtain⟨W,hW⟩:∃ W,W=w.alloc (.cells (frC F A) 41):=⟨_,rfl⟩
 have hb0:Below w.heap.size w W:=by rw[hW];exact Go.Joins.below_alloc1 _ _
 have hfr:FrAt W w.heap.size F A:=by rw[hW];exact FrAt.new w F A
 obtain⟨V0,hV0⟩:∃ V0,V0=W.setCell ⟨w.heap.size,1,none⟩ (.int .i64 s.i):=⟨_,rfl⟩
 have hRw:R<w.heap.size:=h.at'.lt
 have a0:Apart (λk=>k=w.heap.size) W V0:=by rw[hV0];exact(Apart.refl (λk=>k=w.heap.size) W).setCell (b:=w.heap.size) (.inl rfl) 1 _
 have hb1:Below w.heap.size w V0:=a0.below hb0 (λk hk=>by omega) hb0.size
 have hfr2:FrAt V0 w.heap.size { F with f:=s.i } A:=by
  unfold FrAt at hfr ⊢
  rw[hV0,heap_setCell_same _ _ _ _ _ _ hfr]
  rfl
 have c11:=h.at'.cell 11 rfl
 have hst:(Instr.storeAt 3 (.pointer (some ⟨w.heap.size,1,none⟩)) (.int .i64 s.i)).run Tryz.prog W=.ok () V0:=by
  rw[hV0]
  exact pestore_int W _ _ _ hfr.c1 (frozen_of_row _ _ 1 _ _ hfr)
 have H0:Hid (W=w.alloc (.cells (frC F A) 41)/\PEAt W R s ma mc):=⟨hW,h.at'.below hb0⟩
 have HST:Hid ((Instr.storeAt 3 (.pointer (some ⟨w.heap.size,1,none⟩)) (.int .i64 s.i)).run Tryz.prog W=.ok () V0):=hst
 have H1:Hid (PEAll V0 R s ma mc/\Tabs V0/\FrAt V0 w.heap.size { F with f:=s.i } A/\Seen V0 { F with f:=s.i } A/\Below w.heap.size w V0/\F.n<18446744073709551616):=⟨h.below hb1,hT.below hb1,hfr2,⟨hF.key.below hb1,hF.body.below hb1,hF.tag.below hb1⟩,hb1,hn⟩
 have d11:=(h.at'.below hb0).cell 11 rfl
 obtain⟨KK,hKK⟩:∃ KK,KK=pairK s.ms s.i F.t:=⟨_,rfl⟩
 have HLN:Hid (l=sealR KK { F with f:=s.i }/\n=tagE KK { F with f:=s.i }):=by rw[hKK];exact⟨hL,hN⟩
 have KP:Calls Tryz.prog 31 #[.pointer (some ⟨R,0,none⟩),.int .i64 F.t] V0.drew λe w'=>∃ d cd,e=.returned (.slice d KK.length cd)/\Sees w' d cd KK/\Below V0.heap.size V0 w':=by
  have hd:Below V0.heap.size V0 V0.drew:=(Below.refl _ _).drew
  rw[hKK]
  refine(pepair_ok V0.drew R s ma mc (H1.out.1.below hd) (H1.out.2.1.below hd) F.t).mono ?_
  rintro e w' ⟨d,cd,rfl,hs,hb⟩
  exact⟨d,cd,rfl,hs,hd.trans hb⟩
 have HQ:Hid (∀ V,Below V0.heap.size V0 V->((Instr.loadAt 41 (.pointer (some ⟨w.heap.size,0,none⟩))).run Tryz.prog V=.ok (.agg (frC { F with f:=s.i } A)) V/\V.cell? ⟨w.heap.size,2,none⟩=some (.int .i64 F.t))):=λV hV=>
  ⟨(H1.out.2.2.1.below hV).loads,(H1.out.2.2.1.below hV).c2⟩
 have hS0:=HQ.out V0.drew (Below.refl _ _).drew
 clear h hT hF hn hL hN hW hb0 hfr hV0 hRw a0 hb1 hfr2 c11 hst hKK
 go_enter Tryz.func28,Tryz.ntmps28
 go_upto_region 1 with fail
 rw[<-H0.out.1]
 go_upto_region 2 with (first|(refine wpList_store_run rfl 3 _ _ rfl _ _ rfl rfl HST.out ?_)|fail)
 refine wp_region_noPanic ?_
 refine wp_region_held (S:=λV=>(Instr.loadAt 41 (.pointer (some ⟨w.heap.size,0,none⟩))).run Tryz.prog V=.ok (.agg (frC { F with f:=s.i } A)) V/\V.cell? ⟨w.heap.size,2,none⟩=some (.int .i64 F.t)) (by kernel_rfl) ?_
 have hS:=hS0
 refine tk 0 (v:=Value.agg (frC { F with f:=s.i } A)) (hv:=λW hW=>exec_load 41 (.tmp 3) rfl _ _ rfl hW.1) hS ?_
 refine tk 1 hS ?_
 refine tk 2 hS ?_
 refine tk 3 hS ?_
 refine any_one 4 rfl (by kernel_rfl) (by rfl) (λK hK=>?_)
 clear hS
 go_simp
 refine KP.mono ?_
 rintro ev w3 ⟨d3,c3,rfl,hs3,hb3⟩
 have HQ3:=HQ.out w3 hb3
 have KS:=seal_any w3 { F with f:=s.i } A d3 c3 KK (H1.out.2.1.below hb3) (H1.out.2.2.2.1.below hb3) H1.out.2.2.2.2.2 hs3
 rw[<-HLN.out.1,<-HLN.out.2] at KS
 clear hs3 KP
 refine hK.out _ _ (HQ3) (λhS=>?_)
 clear hK
 (try simp only[Act.put,sT])
 refine any_one 5 rfl (by kernel_rfl) (by rfl) (λK hK=>?_)
 clear hS
 go_simp
 refine KS.mono ?_
 rintro ev w5 ⟨d5,c5,rfl,hs5,hb5⟩
 have hb35:Below V0.heap.size V0 w5:=hb3.trans (hb5.mono hb3.size)
 have HQ5:=HQ.out w5 hb35
 have H5:Hid (Sees w5 d5 c5 l/\Below w.heap.size w w5):=⟨hs5,H1.out.2.2.2.2.1.trans (hb35.mono H1.out.2.2.2.2.1.size)⟩
 clear hs5 hb5 hb35 KS
 refine hK.out _ _ (HQ5) (λhS=>?_)
 clear hK
 (try simp only[Act.put,sT])
 refine tk 6 hS ?_
 refine tk 7 hS ?_
 refine tk 8 hS ?_
 refine tk 9 hS ?_
 refine wpAnyH_done (by kernel_rfl) ?_ _
 refine NoPanic.normal ?_
 clear hS hS0 HQ3 HQ5
 go_wp2
 go_ret2
 exact⟨d5,c5,rfl,H5.out⟩
end Go.Proofs.YthogohkieiogiaaGreatDoor
