/-
  The key of two nodes: as long as a key. No contract here.
-/
import Derived.Test.YthogohkieiogiaaGreatDoorSealA
import Derived.Test.YthogohkieiogiaaGreatDoorRows
import Derived.Test.YthogohkieiogiaaGreatDoorSchedA
namespace Go.Proofs.YthogohkieiogiaaGreatDoor
set_option maxRecDepth 20000
set_option maxHeartbeats 1600000
open Go.ChangeShapes Go.WideShapes Go.ChangeAt Go.RowKit
theorem seal_right (key:List UInt8)(F:Fr)(hb:tagB key F=true):rightB (sealF key F)=true:=by
 have h:=((tagB_iff key F).1 hb).2
 unfold rightB
 rw[show coreB (sealF key F)=coreB F from rfl,h]
 simp[sealF,tagL_length]
theorem seal_told {w w':World}{key:List UInt8}{F:Fr}{d:Option Addr}{cd:Nat}{r:List UInt8}(hb:tagB key F=true)(hr:r=putL (sealF key F))(hs:Sees w' d cd r)(hw:Below w.heap.size w w'):
  FTells w w' (.returned (.tuple #[.slice d r.length cd,.int .i64 0])) (sealR key F) (tagE key F):=by
 unfold sealR tagE
 rw[if_pos hb,if_pos hb,<-hr]
 exact⟨d,cd,rfl,hs,hw⟩
theorem seal_none {w w':World}{key:List UInt8}{F:Fr}(hb:tagB key F=false)(hw:Below w.heap.size w w'):FTells w w' (.returned (.tuple #[.slice none 0 0,.int .i64 1])) (sealR key F) (tagE key F):=by
 unfold sealR tagE
 rw[if_neg (by rw[hb];decide),if_neg (by rw[hb];decide)]
 exact⟨none,0,rfl,Sees.nil' _,hw⟩
theorem tag_put {w W:World}{g:Nat}{F:Fr}{A:At}{d:Option Addr}{cd:Nat}{r:List UInt8}(h:FrAt W g F A)(hF:Seen W F A)(hs:Sees W d cd r)(hg:w.heap.size<=g)(hb:Below w.heap.size w W)(hav:∀ x c (l:List UInt8),Sees W x c l->Sees (W.setCell ⟨g,12,none⟩ (.slice d r.length cd)) x c l):
  FrAt (W.setCell ⟨g,12,none⟩ (.slice d r.length cd)) g { F with tag:=r } { A with ta:=d,tc:=cd }/\Seen (W.setCell ⟨g,12,none⟩ (.slice d r.length cd)) { F with tag:=r } { A with ta:=d,tc:=cd } /\
   Below w.heap.size w (W.setCell ⟨g,12,none⟩ (.slice d r.length cd)):=
 ⟨h.put 12 _ rfl,⟨hav _ _ _ hF.key,hav _ _ _ hF.body,hav _ _ _ hs⟩,hb.setCell (p:=⟨g,12,none⟩) hg _⟩
theorem sees_put {W:World}{g:Nat}{F:Fr}{A:At}(h:FrAt W g F A)(i:Nat)(u:Value){x:Option Addr}{c:Nat}{l:List UInt8}(hs:Sees W x c l):Sees (W.setCell ⟨g,i,none⟩ u) x c l:=
 ⟨hs.fits, hs.room, hs.bare, fun hne => by
   obtain ⟨b, off, hx, hc⟩ := hs.at' hne
   refine ⟨b, off, hx, fun j y hy => ?_⟩
   have h1 := hc j y hy
   have hbg : b ≠ g := by
     rintro rfl
     rw [cell_of_row W _ (off + j) _ _ _ h] at h1
     have h2 : (frL F A)[off + j]? = some (cellOf y) := by simpa [frC, cellOf] using h1
     have hm := List.mem_of_getElem? h2
     simp [frL, cellOf] at hm
   rw [World.cell?_setCell_far _ _ _ _ (fun h => hbg h.symm)]
   exact h1⟩
theorem sealed_no (w:World)(F:Fr)(A:At)(k:Option Addr)(ck:Nat)(key:List UInt8)(hT:Tabs w)(hF:Seen w F A)(hk:Sees w k ck key)(hb:tagB key F=false):
  Calls Tryz.prog 36 #[.agg (frC F A),.slice k key.length ck] w λe w'=>∃ s,e=.returned (.tuple #[.slice none 0 0,refV s 1])/\Below w.heap.size w w':=by
 have hb0:Below w.heap.size w (w.alloc (.cells (frC F A) 41)):=Go.Joins.below_alloc1 _ _
 have H0:Hid (Below w.heap.size w (w.alloc (.cells (frC F A) 41))):=hb0
 have HL:Hid ((Instr.loadAt 41 (.pointer (some ⟨w.heap.size,0,none⟩))).run Tryz.prog (w.alloc (.cells (frC F A) 41))=.ok (.agg (frC F A)) (w.alloc (.cells (frC F A) 41))):=(FrAt.new w F A).loads
 have hm:=tagOf_no (w.alloc (.cells (frC F A) 41)) F A k ck key (hT.below hb0) (hF.below hb0) (hk.below hb0) hb
 unfold refV at hm
 clear hb0 hT hF hk hb
 go_enter Tryz.func36,Tryz.ntmps36
 go_upto_region 1 with fail
 generalize w.alloc (Obj.cells (frC F A) 41)=W0 at *
 go_wp2_with (first|(refine wpList_gload_run rfl 41 _ rfl _ _ rfl HL.out ?_)|fail)
 refine hm.mono ?_
 rintro e w1 ⟨s,rfl,hb1⟩
 have H1:Hid (Below w.heap.size w w1):=H0.out.trans (hb1.mono H0.out.size)
 clear hm hb1 H0 HL
 go_wp2
 go_ret2
 exact⟨s,rfl,H1.out⟩
theorem sealed_yes (w:World)(F:Fr)(A:At)(k:Option Addr)(ck:Nat)(key:List UInt8)(hT:Tabs w)(hF:Seen w F A)(hn:F.n<18446744073709551616)(hk:Sees w k ck key)(hb:tagB key F=true):
  Calls Tryz.prog 36 #[.agg (frC F A),.slice k key.length ck] w λe w'=>∃ d cd r,Hid (r=putL (sealF key F))/\e=.returned (.tuple #[.slice d r.length cd,.nilIface])/\Sees w' d cd r/\Below w.heap.size w w':=by
 have hb0:Below w.heap.size w (w.alloc (.cells (frC F A) 41)):=Go.Joins.below_alloc1 _ _
 have H0:Hid (FrAt (w.alloc (.cells (frC F A) 41)) w.heap.size F A/\Seen (w.alloc (.cells (frC F A) 41)) F A/\Below w.heap.size w (w.alloc (.cells (frC F A) 41))):=⟨FrAt.new w F A,hF.below hb0,hb0⟩
 have HL:Hid ((Instr.loadAt 41 (.pointer (some ⟨w.heap.size,0,none⟩))).run Tryz.prog (w.alloc (.cells (frC F A) 41))=.ok (.agg (frC F A)) (w.alloc (.cells (frC F A) 41))):=(FrAt.new w F A).loads
 have h2:=(tagB_iff key F).1 hb
 have hm:=tagOf_yes (w.alloc (.cells (frC F A) 41)) F A k ck key (hT.below hb0) (hF.below hb0) hn (hk.below hb0) h2.1 h2.2
 have HN:Hid (F.n<18446744073709551616/\rightB (sealF key F)=true):=⟨hn,seal_right key F hb⟩
 clear hb0 hT hF hk hn hb h2
 go_enter Tryz.func36,Tryz.ntmps36
 go_upto_region 1 with fail
 generalize w.alloc (Obj.cells (frC F A) 41)=W0 at *
 go_wp2_with (first|(refine wpList_gload_run rfl 41 _ rfl _ _ rfl HL.out ?_)|fail)
 refine hm.mono ?_
 rintro e w1 ⟨d1,c1,r1,hr1,rfl,hl1,hs1,hb1⟩
 have hb1w:Below w.heap.size w w1:=H0.out.2.2.trans (hb1.mono H0.out.2.2.size)
 have h1:=H0.out.1.below hb1
 have c12:=h1.c12
 have z12:=h1.fz 12
 obtain⟨k1,k2,k3⟩:=tag_put (w:=w) h1 (H0.out.2.1.below hb1) hs1 (Nat.le_refl _) hb1w (λ_ _ _ hs=>sees_put h1 12 _ hs)
 rw[hl1] at k1 k2 k3
 obtain⟨V,hV⟩:∃ V,V=w1.setCell ⟨w.heap.size,12,none⟩ (.slice d1 8 c1):=⟨_,rfl⟩
 rw[<-hV] at k1 k2 k3
 have eG:({ F with tag:=r1 }:Fr)=sealF key F:=by unfold sealF;rw[hr1.out]
 rw[eG] at k1 k2
 obtain⟨A2,hA2⟩:∃ A2:At,A2={ A with ta:=d1,tc:=c1 }:=⟨_,rfl⟩
 rw[<-hA2] at k1 k2
 have hp:=put_yes V (sealF key F) A2 k2 HN.out.1 HN.out.2
 obtain⟨G,hG⟩:∃ G,sealF key F=G:=⟨_,rfl⟩
 rw[hG] at hp k1
 have HG:Hid (sealF key F=G):=hG
 have HLV:Hid ((Instr.loadAt 41 (.pointer (some ⟨w.heap.size,0,none⟩))).run Tryz.prog V=.ok (.agg (frC G A2)) V):=k1.loads
 have HV:Hid (V=w1.setCell ⟨w.heap.size,12,none⟩ (.slice d1 8 c1)):=hV
 have HB:Hid (Below w.heap.size w V):=k3
 obtain⟨tn,htn⟩:∃ tn,tn=F.tag.length:=⟨_,rfl⟩
 rw[<-htn] at c12
 clear hm hr1 hl1 hs1 hb1 hb1w h1 H0 HL k1 k2 k3 hV hA2 eG HN htn hG
 go_upto_region 5 with fail
 clear c12 z12
 rw[<-HV.out]
 clear HV
 go_wp2_with (first|(refine wpList_gload_run rfl 41 _ rfl _ _ rfl HLV.out ?_)|fail)
 refine hp.mono ?_
 rintro e w2 ⟨d2,c2,r2,hr2,rfl,hs2,hb2,_⟩
 have H2:Hid (Hid (r2=putL (sealF key F))/\Sees w2 d2 c2 r2/\Below w.heap.size w w2):=⟨by rw[HG.out];exact hr2,hs2,HB.out.trans (hb2.mono HB.out.size)⟩
 clear hp hr2 hs2 hb2 HB HLV
 go_wp2_with fail
 refine(refuse_none _ w2).mono ?_
 rintro e w4 ⟨rfl,rfl⟩
 go_wp2
 go_ret2
 exact⟨d2,c2,r2,H2.out.1,rfl,H2.out.2⟩
theorem seal_any (w:World)(F:Fr)(A:At)(k:Option Addr)(ck:Nat)(key:List UInt8)(hT:Tabs w)(hF:Seen w F A)(hn:F.n<18446744073709551616)(hk:Sees w k ck key):
  Calls Tryz.prog 14 #[.agg (frC F A),.slice k key.length ck] w λe w'=>FTells w w' e (sealR key F) (tagE key F):=by
 have hb0:Below w.heap.size w (w.alloc (.cells (frC F A) 41)):=Go.Joins.below_alloc1 _ _
 have H0:Hid (Below w.heap.size w (w.alloc (.cells (frC F A) 41))):=hb0
 have HL:Hid ((Instr.loadAt 41 (.pointer (some ⟨w.heap.size,0,none⟩))).run Tryz.prog (w.alloc (.cells (frC F A) 41))=.ok (.agg (frC F A)) (w.alloc (.cells (frC F A) 41))):=(FrAt.new w F A).loads
 obtain⟨b,hb⟩:∃ b,tagB key F=b:=⟨_,rfl⟩
 cases b
 ·have hm:=sealed_no (w.alloc (.cells (frC F A) 41)) F A k ck key (hT.below hb0) (hF.below hb0) (hk.below hb0) hb
  have HB:Hid (tagB key F=false):=hb
  clear hb0 hT hF hn hk hb
  go_enter Tryz.func14,Tryz.ntmps14
  go_upto_region 1 with fail
  generalize w.alloc (Obj.cells (frC F A) 41)=W0 at *
  go_wp2_with (first|(refine wpList_gload_run rfl 41 _ rfl _ _ rfl HL.out ?_)|fail)
  refine hm.mono ?_
  rintro e w1 ⟨s,rfl,hb1⟩
  have H1:Hid (Below w.heap.size w w1):=H0.out.trans (hb1.mono H0.out.size)
  have hnu:Calls Tryz.prog 37 #[refV s 1] w1 _:=number_some s 1 (by decide) (by decide) w1
  clear hm hb1 H0 HL
  go_wp2_with fail
  refine hnu.mono ?_
  rintro e w2 ⟨rfl,hb2⟩
  have H2:Hid (Below w.heap.size w w2):=H1.out.trans (hb2.mono H1.out.size)
  clear hnu hb2 H1
  go_wp2
  go_ret2
  exact seal_none HB.out H2.out
 ·have hm:=sealed_yes (w.alloc (.cells (frC F A) 41)) F A k ck key (hT.below hb0) (hF.below hb0) hn (hk.below hb0) hb
  have HB:Hid (tagB key F=true):=hb
  clear hb0 hT hF hn hk hb
  go_enter Tryz.func14,Tryz.ntmps14
  go_upto_region 1 with fail
  generalize w.alloc (Obj.cells (frC F A) 41)=W0 at *
  go_wp2_with (first|(refine wpList_gload_run rfl 41 _ rfl _ _ rfl HL.out ?_)|fail)
  refine hm.mono ?_
  rintro e w1 ⟨d1,c1,r1,hr1,rfl,hs1,hb1⟩
  have H1:Hid (r1=putL (sealF key F)/\Sees w1 d1 c1 r1/\Below w.heap.size w w1):=⟨hr1.out,hs1,H0.out.trans (hb1.mono H0.out.size)⟩
  clear hm hr1 hs1 hb1 H0 HL
  go_wp2_with fail
  refine(number_none w1).mono ?_
  rintro e w2 ⟨rfl,rfl⟩
  go_wp2
  go_ret2
  exact seal_told HB.out H1.out.1 H1.out.2.1 H1.out.2.2
end Go.Proofs.YthogohkieiogiaaGreatDoor
namespace Go.Proofs.YthogohkieiogiaaGreatDoor
set_option maxRecDepth 20000
set_option maxHeartbeats 800000
def mayB (a d:Int):Bool:=decide (0<=d)&&decide (d<=49)&&decide (0<=a)&&decide (a<=1099511627776)
def r8upN (a b:Int):Int:=if a%b=0 then a/b else a/b+1
def mostN (a d:Int):Int:=a*(100+d)/(100-d)
theorem mayB_true {a d:Int}(h:mayB a d=true):0<=d/\d<=49/\0<=a/\a<=1099511627776:=by
 simp[mayB] at h;omega
theorem mayB_of {a d:Int}(h0:0<=d)(h1:d<=49)(h2:0<=a)(h3:a<=1099511627776):mayB a d=true:=by
 simp[mayB];omega
theorem upN_nonneg {x y:Int}(hx:0<=x)(hy:0<y):0<=r8upN x y:=by
 have:=Int.ediv_nonneg hx (show 0<=y by omega)
 unfold r8upN;split<;>omega
theorem prod_bound {a c:Int}(h2:0<=a)(h3:a<=1099511627776)(hc0:0<=c)(hc:c<=149):0<=a*c/\a*c<=163827232538624:=by
 refine⟨Int.mul_nonneg h2 hc0,?_⟩
 have:=Int.mul_le_mul h3 hc hc0 (show (0:Int)<=1099511627776 by omega)
 omega
theorem most_le {b a d:Int}(h1:d<=49):b<=mostN a d↔b*(100-d)<=a*(100+d):=by
 unfold mostN
 exact Int.le_ediv_iff_mul_le (by omega)
theorem le_most {a d:Int}(h0:0<=d)(h1:d<=49)(h2:0<=a):a<=mostN a d:=by
 rw[most_le h1]
 exact Int.mul_le_mul_of_nonneg_left (by omega) h2
theorem most_le3 {a d:Int}(h0:0<=d)(h1:d<=49)(h2:0<=a):mostN a d<=3*a:=by
 unfold mostN
 have:a*(100+d)<=3*a*(100-d):=by
  rw[Int.mul_comm 3 a,Int.mul_assoc]
  exact Int.mul_le_mul_of_nonneg_left (by omega) h2
 have h:=Int.ediv_le_ediv (show 0<100-d by omega) this
 rwa [Int.mul_ediv_cancel _ (show 100-d≠0 by omega)] at h
open Go.ChangeShapes Go.WideShapes Go.ChangeAt Go.RowKit
theorem right_ok (w:World)(a d:Int):
  Calls Tryz.prog 94 #[.int .i64 a,.int .i64 d] w λe w'=>e=.returned (.bool (mayB a d))/\w'=w:=by
 by_cases h0:0<=d
 ·by_cases h1:d<=49
  ·by_cases h2:0<=a
   ·by_cases h3:a<=1099511627776
    ·have hm:mayB a d=true:=mayB_of h0 h1 h2 h3
     rw[hm]
     go_enter Tryz.func94,Tryz.ntmps94
     go_wp2
     go_ret
     exact⟨by first|rfl|simp,rfl⟩
    ·have hm:mayB a d=false:=by simp[mayB,h3]
     rw[hm]
     go_enter Tryz.func94,Tryz.ntmps94
     go_wp2
     go_ret
     exact⟨by first|rfl|simp,rfl⟩
   ·have hm:mayB a d=false:=by simp[mayB,h2]
    rw[hm]
    go_enter Tryz.func94,Tryz.ntmps94
    go_wp2
    go_ret
    exact⟨by first|rfl|simp,rfl⟩
  ·have hm:mayB a d=false:=by simp[mayB,h1]
   rw[hm]
   go_enter Tryz.func94,Tryz.ntmps94
   go_wp2
   go_ret
   exact⟨by first|rfl|simp,rfl⟩
 ·have hm:mayB a d=false:=by simp[mayB,h0]
  rw[hm]
  go_enter Tryz.func94,Tryz.ntmps94
  go_wp2
  go_ret
  exact⟨by first|rfl|simp,rfl⟩
theorem fast_ok (w:World)(d:Int)(h0:0<=d)(h1:d<=49):
  Calls Tryz.prog 140 #[.int .i64 d] w λe w'=>e=.returned (.int .i64 (100+d))/\w'=w:=by
 have e1:IntKind.i64.wrap (100+d)=100+d:=by rw[IntKind.wrap_i64];omega
 go_enter Tryz.func140,Tryz.ntmps140
 go_wp2
 go_ret
 exact⟨by first|rfl|rw[e1],rfl⟩
theorem slow_ok (w:World)(d:Int)(h0:0<=d)(h1:d<=49):
  Calls Tryz.prog 141 #[.int .i64 d] w λe w'=>e=.returned (.int .i64 (100-d))/\w'=w:=by
 have e1:IntKind.i64.wrap (100-d)=100-d:=by rw[IntKind.wrap_i64];omega
 go_enter Tryz.func141,Tryz.ntmps141
 go_wp2
 go_ret
 exact⟨by first|rfl|rw[e1],rfl⟩
theorem quo_bound {x y:Int}(hx:0<=x)(hy:0<y):0<=x/y/\x/y<=x:=⟨Int.ediv_nonneg hx (by omega),Int.ediv_le_self _ hx⟩
theorem quodown_ok (w:World)(x y:Int)(hx:0<=x)(hx1:x<=163827232538624)(hy:0<y)(hy1:y<=149):
  Calls Tryz.prog 139 #[.int .i64 x,.int .i64 y,.int .i64 0] w λe w'=>e=.returned (.int .i64 (x/y))/\w'=w:=by
 obtain⟨q,hq⟩:∃ q,q=x/y:=⟨_,rfl⟩
 have hb:=quo_bound hx hy
 have e1:x.tdiv y=q:=by rw[hq];exact Int.tdiv_eq_ediv_of_nonneg hx
 rw[<-hq] at hb ⊢
 have y0:(y==0)=false:=by simp;omega
 have y1:¬ y=0:=by omega
 have e2:IntKind.i64.wrap q=q:=by rw[IntKind.wrap_i64];omega
 clear hq
 go_enter Tryz.func139,Tryz.ntmps139
 go_wp2
 go_ret
 exact⟨by first|rfl|rw[e1],rfl⟩
theorem inmost_ok (w:World)(a d:Int)(h0:0<=d)(h1:d<=49)(h2:0<=a)(h3:a<=1099511627776):
  Calls Tryz.prog 95 #[.int .i64 a,.int .i64 d] w λe w'=>e=.returned (.int .i64 (mostN a d))/\w'=w:=by
 have hb:=prod_bound (c:=100+d) h2 h3 (by omega) (by omega)
 obtain⟨c,hc⟩:∃ c,c=a*(100+d):=⟨_,rfl⟩
 obtain⟨f,hf⟩:∃ f,f=100+d:=⟨_,rfl⟩
 obtain⟨s,hs⟩:∃ s,s=100-d:=⟨_,rfl⟩
 have k1:=fast_ok w d h0 h1
 have k2:=slow_ok w d h0 h1
 have k3:=quodown_ok w c s (by omega) (by omega) (by omega) (by omega)
 have e0:mostN a d=c/s:=by rw[hc,hs];rfl
 rw[<-hc] at hb
 have e1:a*f=c:=by rw[hc,hf]
 have e2:IntKind.i64.wrap (a*f)=c:=by rw[e1,IntKind.wrap_i64];omega
 rw[<-hf] at k1
 rw[<-hs] at k2
 rw[e0]
 obtain⟨q,hq⟩:∃ q,q=c/s:=⟨_,rfl⟩
 rw[<-hq] at k3 ⊢
 clear e0 hc hf hs hq e1
 go_enter Tryz.func95,Tryz.ntmps95
 go_wp2_with fail
 refine k1.mono ?_
 rintro e w1 ⟨rfl,rfl⟩
 clear k1
 go_wp2_with fail
 refine k2.mono ?_
 rintro e w2 ⟨rfl,rfl⟩
 clear k2
 go_wp2_with fail
 refine k3.mono ?_
 rintro e w2 ⟨rfl,rfl⟩
 clear k3
 go_wp2
 go_ret
 exact⟨rfl,rfl⟩
def ansN (a d n:Int):Value:=if mayB a d=true then .tuple #[.int .i64 n,.int .i64 0] else .tuple #[.int .i64 0,.int .i64 1]
end Go.Proofs.YthogohkieiogiaaGreatDoor
namespace Go.Proofs.YthogohkieiogiaaGreatDoor
set_option maxHeartbeats 800000
open Go.ChangeShapes Go.WideShapes Go.ChangeAt Go.RowKit
theorem most_ok (w:World)(a d:Int):
  Calls Tryz.prog 60 #[.int .i64 a,.int .i64 d] w λe w'=>e=.returned (ansN a d (mostN a d))/\w'=w:=by
 have k1:=right_ok w a d
 by_cases hm:mayB a d=true
 ·obtain⟨h0,h1,h2,h3⟩:=mayB_true hm
  have k2:=inmost_ok w a d h0 h1 h2 h3
  rw[show ansN a d (mostN a d)=.tuple #[.int .i64 (mostN a d),.int .i64 0] from if_pos hm]
  rw[hm] at k1
  obtain⟨q,hq⟩:∃ q,q=mostN a d:=⟨_,rfl⟩
  rw[<-hq] at k2 ⊢
  clear hq hm
  go_enter Tryz.func60,Tryz.ntmps60
  go_wp2_with fail
  refine k1.mono ?_
  rintro e w1 ⟨rfl,rfl⟩
  clear k1
  go_wp2_with fail
  refine k2.mono ?_
  rintro e w1 ⟨rfl,rfl⟩
  clear k2
  go_wp2
  go_ret2
  exact⟨rfl,rfl⟩
 ·rw[show ansN a d (mostN a d)=.tuple #[.int .i64 0,.int .i64 1] from if_neg hm]
  rw[Bool.eq_false_iff.2 hm] at k1
  clear hm
  go_enter Tryz.func60,Tryz.ntmps60
  go_wp2_with fail
  refine k1.mono ?_
  rintro e w1 ⟨rfl,rfl⟩
  clear k1
  go_wp2
  go_ret2
  exact⟨rfl,rfl⟩
end Go.Proofs.YthogohkieiogiaaGreatDoor
namespace Go.Proofs.YthogohkieiogiaaGreatDoor
set_option maxRecDepth 20000
structure Ec where
 c:Cf
 ms:List UInt8
 i:Int
 inc:Int
 ct:Nat
 ws:List (Option (Nat×Int))
def ecB (c:Cf)(ms:List UInt8)(i inc:Int):Bool:=okB c&&decide (0<=i/\i<c.n/\0<=inc/\inc<=65535/\ms.length=16)
def ecNew (c:Cf)(ms:List UInt8)(i inc:Int):Ec:=⟨c,ms,i,inc,0,List.replicate c.n.toNat none⟩
structure Ec.ok (s:Ec):Prop where
 cfg:okB s.c=true
 ms:s.ms.length=16
 node:0<=s.i/\s.i<s.c.n
 inc:0<=s.inc/\s.inc<=65535
 ct:s.ct<=4294967295
 num:s.ws.length=s.c.n.toNat
 wait:∀ p∈s.ws,∀ n t,p=some (n,t)->(0<n/\n<18446744073709551616)/\0<=t/\t<=1099511627776
theorem ecB_iff {c:Cf}{ms:List UInt8}{i inc:Int}:ecB c ms i inc=true↔okB c=true/\0<=i/\i<c.n/\0<=inc/\inc<=65535/\ms.length=16:=by simp[ecB]
theorem ecNew_ok {c:Cf}{ms:List UInt8}{i inc:Int}(h:ecB c ms i inc=true):(ecNew c ms i inc).ok:=by
 obtain⟨h1,h2,h3,h4,h5,h6⟩:=ecB_iff.1 h
 refine⟨h1,h6,⟨h2,h3⟩,⟨h4,h5⟩,Nat.zero_le _,by simp[ecNew],?_⟩
 intro p hp n t e
 have:=List.eq_of_mem_replicate hp
 rw[this] at e
 cases e
def pairK (ms:List UInt8)(i j:Int):List UInt8:=(pairP ms i j).1
def Ec.non (s:Ec):Nat:=s.inc.toNat*4294967296+(s.ct+1)
theorem Ec.non_lt {s:Ec}(h:s.ok)(hc:s.ct<4294967295):0<s.non/\s.non<18446744073709551616:=by
 have:=h.inc
 unfold Ec.non
 omega
def ecPing (i jj:Int)(n:Nat):Fr:=⟨2,i,jj,0,0,0,n,0,0,0,[],[],[]⟩
def Ec.askE (s:Ec)(jj now:Int):Int:=if 0<=jj/\jj<s.c.n/\jj≠s.i/\timeB now=true then (if 4294967295<=s.ct then 9 else 0) else 1
def Ec.askR (s:Ec)(jj now:Int):List UInt8:=if s.askE jj now=0 then sealR (pairK s.ms s.i jj) (ecPing s.i jj s.non) else []
def Ec.askV (s:Ec)(jj now:Int):Ec:=if s.askE jj now=0 then { s with ct:=s.ct+1,ws:=s.ws.set jj.toNat (some (s.non,now)) } else s
theorem Ec.askE_zero {s:Ec}{jj now:Int}:s.askE jj now=0↔(0<=jj/\jj<s.c.n/\jj≠s.i/\timeB now=true)/\s.ct<4294967295:=by
 unfold Ec.askE
 split
 ·rename_i h
  split
  ·rename_i h2;exact⟨(λh=>by cases h),λhh=>by have:=hh.2;omega⟩
  ·rename_i h2;exact⟨λ_=>⟨h,by omega⟩,λ_=>rfl⟩
 ·rename_i h;exact⟨(λh=>by cases h),λh'=>absurd h'.1 h⟩
theorem timeB_iff {t:Int}:timeB t=true↔0<=t/\t<=1099511627776:=by simp[timeB]
theorem Ec.askV_ok {s:Ec}(h:s.ok)(jj now:Int):(s.askV jj now).ok:=by
 unfold Ec.askV
 split
 ·rename_i h0
  obtain⟨⟨a,b,c,d⟩,e⟩:=Ec.askE_zero.1 h0
  refine⟨h.cfg,h.ms,h.node,h.inc,by show s.ct+1<=_;omega,by show (s.ws.set _ _).length=_;rw[List.length_set];exact h.num,?_⟩
  intro p hp n t e
  rcases List.mem_or_eq_of_mem_set hp with hp|rfl
  ·exact h.wait p hp n t e
  ·simp only[Option.some.injEq,Prod.mk.injEq] at e
   obtain⟨rfl,rfl⟩:=e
   exact⟨Ec.non_lt h (by omega),timeB_iff.1 d⟩
 ·exact h
def Ec.opE (s:Ec)(l:List UInt8):Int:=if getE l≠0 then (getE l:Nat) else if (getF l).k=1\/(getF l).t≠s.i then 1 else if holdsB (pairK s.ms (getF l).f s.i) (getF l)=false then 13 else 0
def Ec.opF (s:Ec)(l:List UInt8):Fr:=if s.opE l=0 then getF l else Fr.zero
def ecPong (i jj:Int)(n:Nat)(m e st ix:Int)(key:List UInt8):Fr:=⟨3,i,jj,e,st,0,n,m,0,ix,key,[],[]⟩
def Ec.repB (s:Ec)(F:Fr):Bool:=decide (F.k=2/\F.t=s.i)&&rightB F
def Ec.repF (s:Ec)(F:Fr)(m e st ix:Int)(key:List UInt8):Fr:=ecPong s.i F.f F.n m e st ix key
def Ec.repE (s:Ec)(F:Fr)(m e st ix:Int)(key:List UInt8):Int:=if s.repB F=true then tagE (pairK s.ms F.f s.i) (s.repF F m e st ix key) else 1
def Ec.repR (s:Ec)(F:Fr)(m e st ix:Int)(key:List UInt8):List UInt8:=if s.repB F=true then sealR (pairK s.ms F.f s.i) (s.repF F m e st ix key) else []
def Ec.heB (s:Ec)(F:Fr)(now:Int):Bool:=decide (F.k=3/\F.t=s.i)&&rightB F&&decide (F.f<s.c.n)&&timeB now
def Ec.at? (s:Ec)(F:Fr):Option (Nat×Int):=(s.ws[F.f.toNat]?).join
def Ec.heE (s:Ec)(F:Fr)(now:Int):Int:=
 if s.heB F now=true then (match s.at? F with
  | none=>6
  | some (n,t)=>if n≠F.n\/now<t then 6 else if s.c.v<now-t then 12 else 0) else 1
def Ec.heV (s:Ec)(F:Fr)(now:Int):Ec:=if s.heE F now=0\/s.heE F now=12 then { s with ws:=s.ws.set F.f.toNat none } else s
theorem Ec.heV_ok {s:Ec}(h:s.ok)(F:Fr)(now:Int):(s.heV F now).ok:=by
 unfold Ec.heV
 split
 ·refine⟨h.cfg,h.ms,h.node,h.inc,h.ct,by show (s.ws.set _ _).length=_;rw[List.length_set];exact h.num,?_⟩
  intro p hp n t e
  rcases List.mem_or_eq_of_mem_set hp with hp|rfl
  ·exact h.wait p hp n t e
  ·cases e
 ·exact h
structure An where
 f:Int
 lo:Int
 hi:Int
 e:Int
 s:Int
 i:Int
 key:List UInt8
def An.zero:An:=⟨0,0,0,0,0,0,[]⟩
def Ec.heA (s:Ec)(F:Fr)(now:Int):An:=
 if s.heE F now=0 then (match s.at? F with
  | none=>An.zero
  | some (_,t)=>⟨F.f,F.m-now,F.m+mostN (now-t) (s.c.r+s.c.l)-now,F.e,F.s,F.i,F.key⟩) else An.zero
end Go.Proofs.YthogohkieiogiaaGreatDoor
namespace Go.Proofs.YthogohkieiogiaaGreatDoor
set_option maxRecDepth 20000
open Go.ChangeShapes Go.WideShapes Go.ChangeAt Go.RowKit
theorem pairK_len {ms:List UInt8}{i j:Int}(hm:ms.length=16)(hi:0<=i/\i<8)(hj:0<=j/\j<8)(hne:i≠j):(pairP ms i j).2=0/\(pairK ms i j).length=16:=by
 have h:pairP ms i j=keyP ms pairN [(min i j).toNat,(max i j).toNat]:=by
  unfold pairP
  rw[if_pos ⟨by simp[nodeP,hi],by simp[nodeP,hj],hne⟩]
 have h2:keyP ms pairN [(min i j).toNat,(max i j).toNat]=(keyOf ms pairN [(min i j).toNat,(max i j).toNat],0):=keyP_ok _ _ _ labels.1 (by simp) (by omega)
 unfold pairK
 rw[h,h2]
 exact⟨rfl,keyOf_length _ _ _⟩
theorem pairK_comm (ms:List UInt8)(i j:Int):pairK ms i j=pairK ms j i:=by
 unfold pairK pairP
 rw[show min i j=min j i by omega,show max i j=max j i by omega]
 by_cases h:nodeP i=true/\nodeP j=true/\i≠j
 ·rw[if_pos h,if_pos ⟨h.2.1,h.1,λe=>h.2.2 e.symm⟩]
 ·rw[if_neg h,if_neg (λhh=>h ⟨hh.2.1,hh.1,λe=>hh.2.2 e.symm⟩)]
def anL (x:An)(a:Option Addr)(c:Nat):List Value:=[.int .i64 x.f,.int .i64 x.lo,.int .i64 x.hi,.int .i64 x.e,.int .i64 x.s,.int .i64 x.i,.slice a x.key.length c]
def anC (x:An)(a:Option Addr)(c:Nat):Array Value:=(anL x a c).toArray
theorem anC_size (x:An)(a:Option Addr)(c:Nat):(anC x a c).size=7:=rfl
theorem anC_one (x:An)(a:Option Addr)(c:Nat):(anC x a c).all (·.oneCell')=true:=all_oneCell_toArray (by
 intro v hv
 simp only[anL,List.mem_cons,List.not_mem_nil,or_false] at hv
 rcases hv with rfl|rfl|rfl|rfl|rfl|rfl|rfl<;>rfl)
def HeardN (w w':World)(e:Ending)(x:An)(n:Int):Prop:=∃ a c,e=.returned (.tuple #[.agg (anC x a c),.int .i64 n])/\Sees w' a c x.key/\Below w.heap.size w w'
theorem op_store_run {w w':World}{o:Oper}{a:Act}{K:Act->World->Prop}{Q:Exit->Act->World->Prop}(ty:TypeId)(x y:Operand)(ho:o.op=.store ty x y)(v u:Value)(hx:a.eval x=v)(hy:a.eval y=u)(hrun:(Instr.storeAt ty v u).run Tryz.prog w=.ok () w')(h:K (a.put o.dst undef) w'):Oper.wp Tryz.prog o a w K Q:=by
 unfold Oper.wp execOp
 simp only[ho,hx,hy,Sem.run_bind,hrun,Result.andThen_ok,Sem.run_pure]
 exact h
theorem Ec.heB_iff {s:Ec}{F:Fr}{now:Int}(h:s.heB F now=true):F.k=3/\F.t=s.i/\rightB F=true/\(0<=F.f/\F.f<s.c.n)/\timeB now=true/\F.key.length=16/\0<=F.m/\F.m<=1099511627776:=by
 simp only[Ec.heB,Bool.and_eq_true,decide_eq_true_eq] at h
 obtain⟨⟨⟨⟨h1,h2⟩,h3⟩,h4⟩,h5⟩:=h
 refine⟨h1,h2,h3,?_,h5,?_⟩
 ·have:=h3
  simp[rightB,coreB,numsB,inB] at this
  omega
 ·have:=h3
  simp[rightB,coreB,numsB,inB,h1] at this
  omega
end Go.Proofs.YthogohkieiogiaaGreatDoor
