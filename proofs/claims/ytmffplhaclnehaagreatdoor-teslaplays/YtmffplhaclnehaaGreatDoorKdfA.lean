/- A helper. -/
import Derived.Test.YtmffplhaclnehaaGreatDoorRefB
import Derived.Shelf.RegionOpen
import Derived.OwnWalkIn
import Derived.LoopNIn
import Derived.LoopIn
import Derived.Lib.AppendZeros
import Derived.Test.YtmffplhaclnehaaGreatDoorHmacB
namespace Go.Proofs.YtmffplhaclnehaaGreatDoor
set_option maxRecDepth 100000
set_option maxHeartbeats 4000000
open Go.ChangeShapes Go.WideShapes Go.ChangeAt Go.RowKit
def uz:Prop:=∀ (w:World) (a:Option Addr) (ca:Nat) (key:List UInt8) (b:Option Addr) (cb:Nat) (info:List UInt8) (n:Int),fJ w->bN w->ag w a ca key->ag w b cb info->key.length<=2000 ->
 Calls Tryz.prog 143 #[.slice a key.length ca,.slice b info.length cb,.int .i64 n] w λe w'=>Says w w' e (bO key info n)
def xh:Prop:=∀ (w:World) (a:Option Addr) (ca:Nat) (key:List UInt8) (name:List UInt8) (c:Option Addr) (cc:Nat) (l:List Nat),name.length<=9223372036854775807->fJ w->bN w->ag w a ca key->jf w c cc l ->
 Calls Tryz.prog 95 #[.slice a key.length ca,.string ⟨name.toArray⟩,.slice c l.length cc] w λe w'=>Says w w' e (jQ key name l)
def UI:Prop:=∀ (w:World) (a:Option Addr) (ca:Nat) (key:List UInt8),fJ w->bN w->ag w a ca key->Calls Tryz.prog 144 #[.slice a key.length ca] w λe w'=>Says w w' e (uA key)
theorem labels:ig Xq=true/\ig YU=true/\ig o5=true/\ig qI=true:=by decide +kernel
theorem Gp (key name:List UInt8)(l:List Nat)(h1:ig name=true)(h2:l.length<=16)(h3:key.length<=1000):jQ key name l=(keyOf key name l,0):=by
 unfold jQ;rw[if_neg (by simp[h1];omega),if_neg (by omega)]
def Gr (w w':World)(e:Ending)(r:List UInt8)(q:Nat):Prop:=∃ d cd,e=.returned (.tuple #[.slice d r.length cd,.int .i64 (q:Int)])/\ag w' d cd r/\Below w.heap.size w w'
open Go.ChangeShapes Go.WideShapes Go.ChangeAt Go.RowKit Go.Shelf
attribute [local go_sem] Oper.semAt_some
theorem JK (w:World)(name:List UInt8)(hn:name.length<=1000):
  ∃ c w1,(Go.convert 9 24 (.string ⟨name.toArray⟩)).run Tryz.prog w=.ok (.slice (some ⟨w.heap.size,0,none⟩) name.length c) w1/\ag w1 (some ⟨w.heap.size,0,none⟩) c name/\Below w.heap.size w w1:=by
 have hcv:=Lib.run_convert_string_bytes (P:=Tryz.prog) w 9 24 5 (⟨name.toArray⟩:ByteArray) Tryz.underlying9 Tryz.underlying24 Tryz.underlying5
 have hsz:(⟨name.toArray⟩:ByteArray).size=name.length:=by simp[ByteArray.size]
 rw[hsz] at hcv
 refine⟨_,_,hcv,⟨grownCap_ge w name.length 0 5,grownCap_le_maxLen w name.length 0 5 (by unfold maxLen;omega),by simp,λ_=>⟨_,0,rfl,λi x hx=>?_⟩⟩,⟨rfl,rfl,rfl,by rw[Lib.bytesWorld_size];omega,λk hk=>Lib.bytesWorld_at_old w 5 _ k hk⟩⟩
 have hi':=(List.getElem?_eq_some_iff.1 hx).1
 rw[Nat.zero_add,Lib.bytesWorld_cell w 5 _ i (by rw[hsz];exact hi')]
 simp[hx]
theorem EO (l:List Nat)(k x:Nat)(h:l[k]?=some x):l.take (k+1)=l.take k++[x]:=by
 rw[List.take_add_one,h];rfl
abbrev Part:=Option Addr×Nat×List UInt8
theorem NF (m l bS bL:Nat)(name:List UInt8)(hn:name.length<=1000)(c:Option Addr)(cc:Nat)(L:List Nat)(Xr:L.length<=16)(I:List UInt8->World->Prop)(kI:∀ acc W W',I acc W->Below W.heap.size W W'->I acc W')(bI:∀ acc W,I acc W->W.cell? ⟨bS,0,none⟩=some (.string ⟨name.toArray⟩)/\W.cell? ⟨bL,0,none⟩=some (.slice c L.length cc)/\jf W c cc L)(Bk Bx:World->Prop)(kB:∀ W W',Bk W->Below W.heap.size W W'->Bk W')(hY:∀ (acc:List UInt8) (x:Part) W,Bk W->(I acc W/\ag W x.1 x.2.1 x.2.2/\x.2.2.length<=1000/\acc.length<=2000)->YieldAt Fence.wide (m-1) Tryz.prog l #[.slice x.1 x.2.2.length x.2.1] W λe W'=>(e=.returned (.bool true)/\Bk W'/\I (acc++x.2.2) W')\/(e=.returned (.bool false)/\Bx W'))(W:World)(hW:Bk W)(hI:I [] W):
  CallsIn Fence.wide m Tryz.prog 186 #[.func (.yield l) #[] #[],.pointer (some ⟨bS,0,none⟩),.pointer (some ⟨bL,0,none⟩)] W λe W'=>(∃ v,e=.returned v)/\((∃ s,s=jU name L/\Bk W'/\I s W')\/Bx W'):=by
 obtain⟨c1,w1,hcv,hs1,hb1⟩:=JK W name hn
 obtain⟨hcS,hcL,hLo⟩:=bI [] W hI
 obtain⟨fn,tmps,assign,body,hy,hR⟩:=hY [] (_,c1,name) w1 (kB _ _ hW hb1) ⟨kI _ _ _ hI hb1,hs1,hn,by simp⟩
 have HR:Hid (RoundIn Fence.wide (m-1) Tryz.prog l fn tmps assign body w1 λe W'=>(e=.returned (.bool true)/\Bk W'/\I ([]++name) W')\/(e=.returned (.bool false)/\Bx W')):=hR
 have HY:Hid (∀ (acc:List UInt8) (x:Part) W,Bk W->(I acc W/\ag W x.1 x.2.1 x.2.2/\x.2.2.length<=1000/\acc.length<=2000)->YieldAt Fence.wide (m-1) Tryz.prog l #[.slice x.1 x.2.2.length x.2.1] W λe W'=>(e=.returned (.bool true)/\Bk W'/\I (acc++x.2.2) W')\/(e=.returned (.bool false)/\Bx W')):=hY
 have HI:Hid (∀ acc W,I acc W->W.cell? ⟨bS,0,none⟩=some (.string ⟨name.toArray⟩)/\W.cell? ⟨bL,0,none⟩=some (.slice c L.length cc)/\jf W c cc L):=bI
 clear hR hY bI hs1 hLo
 dsimp only at hy
 refine callsIn_of_wp Tryz.func186 rfl trivial ?_ rfl
 simp only[Tryz.ntmps186,List.size_toArray,List.length_cons,List.length_nil,Nat.reduceAdd,Nat.reduceSub,Array.replicate_succ,Array.replicate_zero,List.push_toArray,List.append_toArray,List.nil_append,List.cons_append]
 gi_wp2
 refine⟨(λh=>by cases h),HR.out.mono ?_⟩
 clear hy HR hcv hcS hcL hW hI hb1
 rintro e W2 (⟨rfl,hB2,hI2⟩|⟨rfl,hX2⟩)
 ·rw[List.nil_append] at hI2
  have hb3:Below W2.heap.size W2 (W2.alloc (.cells #[.int .u8 0] 5)):=(Below.refl _ _).alloc (Nat.le_refl _) _
  obtain⟨fn2,Xt,assign2,Xu,hy2,hR2⟩:=HY.out name (some ⟨W2.heap.size,0,none⟩,1,[0]) (W2.alloc (.cells #[.int .u8 0] 5)) (kB _ _ hB2 hb3)
   ⟨kI _ _ _ hI2 hb3, ⟨Nat.le_refl _, by unfold maxLen; simp, by simp, fun _ => ⟨_, 0, rfl, fun i x hx => by
     match i, hx with
     | 0, hx => simp at hx; subst hx; exact cell_of_row _ _ 0 _ _ _ (heap_alloc_new W2 _)
     | k + 1, hx => simp at hx⟩⟩, by simp, by omega⟩
  have HR2:Hid (RoundIn Fence.wide (m-1) Tryz.prog l fn2 Xt assign2 Xu (W2.alloc (.cells #[.int .u8 0] 5)) λe W'=>(e=.returned (.bool true)/\Bk W'/\I (name++[0]) W')\/(e=.returned (.bool false)/\Bx W')):=hR2
  dsimp only at hy2
  simp only[List.length_cons,List.length_nil,Nat.zero_add] at hy2
  clear hR2 hB2 hI2 hb3
  gi_wp2
  refine⟨(λh=>by cases h),HR2.out.mono ?_⟩
  clear hy2 HR2
  rintro e W3 (⟨rfl,hB3,hI3⟩|⟨rfl,hX3⟩)
  ·obtain⟨_,hcL,hLo⟩:=HI.out _ W3 hI3
   have TJ:L.length<=9223372036854775807:=by omega
   clear hLo
   gi_wp2
   gi_loopw [19] (λi wr=>∃ k:Nat,k<=L.length/\i=.int .i64 k/\Bk wr/\I (jU name (L.take k)) wr) (λi _=>L.length-(intOf i).toNat)
   case atStart=>exact⟨0,Nat.zero_le _,rfl,hB3,by simpa [jU,iI] using hI3⟩
   case round=>
    obtain⟨k,hk,rfl,sG,La⟩:=hrel
    obtain⟨_,_,hLo⟩:=HI.out _ wr La
    clear hB3 hI3 hcL
    by_cases hlt:k<L.length
    ·obtain⟨x,hx⟩:∃ x,L[k]?=some x:=⟨L[k],by simp[hlt]⟩
     obtain⟨b,off,rfl,hc⟩:=hLo.get hx
     have hxs:=hLo.small x (List.mem_of_getElem? hx)
     have hpl:=uT wr none 0 [] x (ag.nil' _) (by simp) hxs
     have hnext:Hid (jU name (L.take (k+1))=jU name (L.take k)++oK [x/4294967296,x%4294967296]):=by
      unfold jU;rw[EO L k x hx,pI,List.append_assoc,List.append_assoc,List.append_assoc];exact rfl
     clear hx hLo
     gi_wp2
     refine⟨trivial,(λh=>by cases h),(callsIn_wide.2 hpl).mono ?_⟩
     rintro e w5 ⟨d5,c5,r5,kz,rfl,hs5,hb5⟩
     have Xv:r5.length<=1000:=by rw[kz.out];simp[oK,w4]
     obtain⟨fn5,MI,Ad,MJ,WB,Uh⟩:=HY.out _ (d5,c5,r5) w5 (kB _ _ sG hb5) ⟨kI _ _ _ La hb5,hs5,Xv,by simp[jU,jD];omega⟩
     have yQ:Hid (RoundIn Fence.wide (m-1) Tryz.prog l fn5 MI Ad MJ w5 λe W'=>(e=.returned (.bool true)/\Bk W'/\I (jU name (L.take k)++r5) W')\/(e=.returned (.bool false)/\Bx W')):=Uh
     dsimp only at WB
     clear hpl Uh sG La hs5 hb5 Xv
     gi_wp2
     refine⟨(λh=>by cases h),yQ.out.mono ?_⟩
     clear WB yQ
     rintro e W6 (⟨rfl,Vy,hI6⟩|⟨rfl,WC⟩)
     ·rw[kz.out,List.nil_append,<-hnext.out] at hI6
      gi_wp2
      go_roundw
      case rel=>exact⟨k+1,by omega,by go_num,Vy,hI6⟩
      case measure=>simp[intOf];omega
     ·gi_wp2
      refine bodyPost_ret (results_none rfl _ _ _) rfl ?_
      exact⟨⟨_,rfl⟩,.inr WC⟩
    ·obtain rfl:k=L.length:=by omega
     gi_wp2
     go_end0
     exact⟨⟨_,rfl⟩,.inl ⟨_,by rw[List.take_length],sG,La⟩⟩
  ·gi_wp2
   refine bodyPost_ret (results_none rfl _ _ _) rfl ?_
   exact⟨⟨_,rfl⟩,.inr hX3⟩
 ·gi_wp2
  refine⟨(λ_ h=>by cases h),?_⟩
  gi_wp2
  refine bodyPost_ret (results_none rfl _ _ _) rfl ?_
  exact⟨⟨_,rfl⟩,.inr hX2⟩
theorem NG (w:World)(n:Nat)(h0:0<n)(hn:n<=140737488355328):
  Calls Tryz.prog 156 #[.slice none 0 0,.int .i64 (n:Int)] w λe w'=>∃ v,e=.returned v/\w'.ownsRow w.heap.size 5 1 v 0 []/\Below w.heap.size w w':=by
 obtain⟨i5,hi,hz0,hz1,hz2⟩:=info_parts Tryz.info5
 have hrun:=Lib.run_append_nil_zeros (P:=Tryz.prog) w 24 3 24 5 i5 (.int .u8 0) .i64 .i64 Tryz.underlying24 Tryz.underlying3 hi hz0 n h0 (by rw[hz1];omega) (by omega) (by rw[hz2];omega)
 obtain⟨c,hc⟩:=ai (grownCap w n 0 5)
 rw[<-hc] at hrun
 have hcn:n<=c:=by rw[hc];exact grownCap_ge w n 0 5
 have hcm:c<=maxLen:=by rw[hc];exact grownCap_le_maxLen w n 0 5 (by unfold maxLen;omega)
 obtain⟨w1,hw1⟩:=ai (w.drew.alloc (.cells (Builtin.zeroCells (Value.int .u8 0).cells n++Builtin.zeroCells (Value.int .u8 0).cells (c-n)) 5))
 rw[<-hw1] at hrun
 have ho:w1.ownsRow w.heap.size 5 1 (.slice (some ⟨w.heap.size,0,none⟩) 0 c) 0 []:=by
  rw[hw1];exact World.ownsRow_made w.drew _ c (Nat.le_refl _) hcm (by simp[Builtin.zeroCells,Value.cells];omega)
 have hb:Below w.heap.size w w1:=by rw[hw1];exact(Below.refl _ w).drew.alloc (Nat.le_refl _) _
 have HR:Hid ((Builtin.append_ #[24,3] 24 #[.slice none 0 0,.int .i64 (n:Int)]).run Tryz.prog w=.ok (.slice (some ⟨w.heap.size,0,none⟩) n c) w1):=hrun
 clear hrun hw1 hc
 go_enter Tryz.func156,Tryz.ntmps156
 go_wp2_with (at_builtin;refine Lib.wpList_append_run _ rfl _ _ 24 3 rfl _ _ rfl rfl _ _ HR.out ?_)
 go_ret
 exact⟨_,rfl,ho,hb⟩
abbrev Sl:=Option Addr×Nat×List UInt8
def eG (ps:List Sl):List UInt8:=(ps.map λp=>p.2.2).flatten
theorem zf (ps:List Sl)(k:Nat)(p:Sl)(h:ps[k]?=some p):eG (ps.take (k+1))=eG (ps.take k)++p.2.2:=by
 unfold eG;rw[List.take_add_one,h];simp
theorem GR (ps:List Sl)(k:Nat):(eG (ps.take k)).length<=(eG ps).length:=by
 have h:eG ps=eG (ps.take k)++eG (ps.drop k):=by
  unfold eG;rw[<-List.flatten_append,<-List.map_append,List.take_append_drop]
 rw[h,List.length_append];omega
theorem ER (w:World)(g:Nat)(ps:List Sl)(hp:∀ k p,ps[k]?=some p->w.cell? ⟨g,k,none⟩=some (.slice p.1 p.2.2.length p.2.1)/\ag w p.1 p.2.1 p.2.2)(hg:g<w.heap.size)(h0:0<(eG ps).length)(hl:(eG ps).length<=1000000)(hpl:ps.length<=1000):
  Calls Tryz.prog 190 #[.slice (some ⟨g,0,none⟩) ps.length ps.length] w λe w'=>∃ d cd r,Hid (r=eG ps)/\e=.returned (.slice d r.length cd)/\ag w' d cd r/\Below w.heap.size w w':=by
 have HP:Hid (∀ k p,ps[k]?=some p->w.cell? ⟨g,k,none⟩=some (.slice p.1 p.2.2.length p.2.1)/\ag w p.1 p.2.1 p.2.2):=hp
 have hgr:=NG w (eG ps).length h0 (by omega)
 clear hp
 go_enter Tryz.func190,Tryz.ntmps190
 go_wp2
 go_loop [3,5,11] (λsz _ i=>∃ k m:Nat,k<=ps.length/\i=.int .i64 (k:Int)/\sz=.int .i64 (m:Int)/\Hid (m=(eG (ps.take k)).length)/\m<=1000000) (λ_ _ i=>ps.length-(intOf i).toNat)
 case atStart=>exact⟨0,0,Nat.zero_le _,rfl,rfl,by rfl,by omega⟩
 case round=>
  obtain⟨k,m,hk,rfl,rfl,hm,hm1⟩:=hrel
  by_cases hlt:k<ps.length
  ·obtain⟨p,hpk⟩:∃ p,ps[k]?=some p:=⟨ps[k],by simp[hlt]⟩
   obtain⟨hc,_⟩:=HP.out k p hpk
   have hn:m+p.2.2.length=(eG (ps.take (k+1))).length:=by rw[zf ps k p hpk,List.length_append,<-hm.out]
   have hle:m+p.2.2.length<=1000000:=by rw[hn];exact Nat.le_trans (GR ps (k+1)) hl
   have HN:Hid (m+p.2.2.length=(eG (ps.take (k+1))).length):=hn
   have hneg:¬ ((m:Int)+(p.2.2.length:Int)<0):=by omega
   clear hgr hpk hn hm
   go_wp2
   go_round
   case rel=>exact⟨k+1,m+p.2.2.length,by omega,by go_num,by go_num,HN,hle⟩
   case measure=>simp[intOf];omega
  ·obtain rfl:k=ps.length:=by omega
   obtain rfl:m=(eG ps).length:=by have:=hm.out;rwa [List.take_length] at this
   clear hm hm1
   go_wp2_with fail
   refine hgr.mono ?_
   rintro e w1 ⟨v1,rfl,ho1,hb1⟩
   clear hgr
   go_wp2
   go_loopw [6,8,27] (λu _ i wr=>∃ (k:Nat) (v:Value),k<=ps.length/\i=.int .i64 (k:Int)/\v=u/\wr.ownsRow w.heap.size 5 1 v (eG (ps.take k)).length ((eG (ps.take k)).map cellOf)/\Below w.heap.size w wr) (λ_ _ i _=>ps.length-(intOf i).toNat)
   case atStart=>exact⟨0,_,Nat.zero_le _,rfl,rfl,ho1,hb1⟩
   case round=>
    obtain⟨k,v,hk,rfl,rfl,own,aM⟩:=hrel
    clear ho1 hb1
    by_cases hlt2:k<ps.length
    ·obtain⟨p,hpk⟩:∃ p,ps[k]?=some p:=⟨ps[k],by simp[hlt2]⟩
     obtain⟨hc,hs⟩:=HP.out k p hpk
     rw[<-aM.cell (p:=⟨g,k,none⟩) hg] at hc
     have hn:eG (ps.take (k+1))=eG (ps.take k)++p.2.2:=zf ps k p hpk
     have hle:(eG (ps.take k)).length+p.2.2.length<=1000000:=by rw[<-List.length_append,<-hn];exact Nat.le_trans (GR ps (k+1)) hl
     obtain⟨v2,w2,hrun,ho2,hk2⟩:=aP wr w.heap.size v (eG (ps.take k)) own p.1 p.2.1 p.2.2 (hs.below aM) (by omega) aM.size
     rw[<-hn] at ho2
     have hb2:=hk2 _ _ aM (Nat.le_refl _)
     have HR:Hid ((Builtin.append_ #[24,24] 24 #[v,.slice p.1 p.2.2.length p.2.1]).run Tryz.prog wr=.ok v2 w2):=hrun
     have HO:Hid (w2.ownsRow w.heap.size 5 1 v2 (eG (ps.take (k+1))).length ((eG (ps.take (k+1))).map cellOf)):=ho2
     clear hrun ho2 hk2 hn hle hs hpk own
     go_wp2_with (at_builtin;refine wpList_append_run rfl _ _ 24 rfl _ _ _ rfl rfl HR.out ?_)
     go_roundw
     case rel=>exact⟨k+1,v2,by omega,by go_num,rfl,HO.out,hb2⟩
     case measure=>simp[intOf];omega
    ·obtain rfl:k=ps.length:=by omega
     rw[List.take_length] at own
     obtain⟨d,cd,rfl,hs⟩:=ag.bA own
     obtain⟨r,hr⟩:=ai (eG ps)
     rw[<-hr] at hs ⊢
     have HR:Hid (r=eG ps):=hr
     clear own hr
     go_wp2
     go_ret
     exact⟨d,cd,r,HR,rfl,hs,aM⟩
theorem nX (w:World)(s:ByteArray)(pos:Nat):Below w.heap.size w (w.iter s pos):=(Below.refl _ _).alloc (Nat.le_refl _) _
theorem UJ (s:List UInt8)(k:Nat)(c:UInt8)(h:s[k]?=some c):∃ hk:k<(⟨s.toArray⟩:ByteArray).size,(⟨s.toArray⟩:ByteArray)[k]'hk=c:=by
 obtain⟨hk,he⟩:=List.getElem?_eq_some_iff.1 h
 refine⟨by simp[ByteArray.size];exact hk,?_⟩
 rw[<-he];rfl
theorem uU (s:List UInt8)(hs:s.length<=9223372036854775807)(w:World):Calls Tryz.prog 141 #[.string ⟨s.toArray⟩] w λe w'=>e=.returned (.bool (ig s))/\Below w.heap.size w w':=by
 obtain⟨F,hF⟩:=ai (ig s)
 rw[<-hF]
 have HF:Hid (F=(s.all xk&&decide (1<=s.length/\s.length<=64))):=hF
 clear hF
 by_cases h1:s.length<1
 ·have Dx:Hid (F=false):=by
   rw[HF.out,show decide (1<=s.length/\s.length<=64)=false from by simp;omega];simp;exact trivial
  have d1:(s.length:Int)<1:=by omega
  go_enter Tryz.func141,Tryz.ntmps141
  go_wp2
  go_ret
  exact⟨by rw[Dx.out];rfl,Below.refl _ _⟩
 have d1:decide ((s.length:Int)<1)=false:=by simp;omega
 by_cases h2:64<s.length
 ·have Dx:Hid (F=false):=by
   rw[HF.out,show decide (1<=s.length/\s.length<=64)=false from by simp;omega];simp;exact trivial
  have d2:(64:Int)<(s.length:Int):=by omega
  go_enter Tryz.func141,Tryz.ntmps141
  go_wp2
  go_ret
  exact⟨by rw[Dx.out];rfl,Below.refl _ _⟩
 have d2:decide ((64:Int)<(s.length:Int))=false:=by simp;omega
 have HFA:Hid (F=s.all xk):=by
  rw[HF.out,show decide (1<=s.length/\s.length<=64)=true from by simp;omega,Bool.and_true];exact rfl
 clear HF
 obtain⟨S,hS⟩:=ai (⟨s.toArray⟩:ByteArray)
 have hSz:S.size=s.length:=by rw[hS];simp[ByteArray.size]
 rw[<-hS]
 have HS:Hid (S=⟨s.toArray⟩):=hS
 have Au:Hid (S.size=s.length):=hSz
 rw[<-hSz] at d1 d2 h1 h2 hs
 clear hS hSz
 go_enter Tryz.func141,Tryz.ntmps141
 go_wp2
 go_loopw [4] (λ_ w'=>∃ pos:Nat,pos<=S.size/\w'=w.iter S pos/\Hid ((s.take pos).all xk=true)) (λ_ w'=>S.size-w'.iterPos w.heap.size)
 case atStart=>exact⟨0,by omega,rfl,by simp;exact trivial⟩
 case round=>
  obtain⟨pos,hpos,rfl,hall⟩:=hrel
  by_cases hp:pos<S.size
  ·obtain⟨c,hc⟩:∃ c,s[pos]?=some c:=⟨s[pos]'(by rw[<-Au.out];exact hp),by simp⟩
   obtain⟨hp',hat⟩:=UJ s pos c hc
   have ES:S[pos]'hp=c:=by rw[<-hat];simp[HS.out]
   have hst:=xm s pos c hc
   by_cases h7:c.toNat<128
   ·have hnx:∀ ty,(Instr.next (.pointer (some ⟨w.heap.size,0,none⟩)) true ty).run Tryz.prog (w.iter S pos)=_:=λty=>run_next_ascii w S pos ty hp (by rw[ES];exact h7)
    rw[ES] at hnx
    by_cases h97:c.toNat<97
    ·have Dx:Hid (F=false):=by
      rw[HFA.out,List.all_eq_false.2 ⟨c,List.mem_of_getElem? hc,by unfold xk;simp;omega⟩];exact rfl
     have e1:(c.toNat:Int)<97:=by omega
     clear hst hc hall hat ES
     go_wp2
     go_ret
     exact⟨by rw[Dx.out];rfl,nX _ _ _⟩
    ·have e1:decide ((c.toNat:Int)<97)=false:=by simp;omega
     by_cases h122:122<c.toNat
     ·have Dx:Hid (F=false):=by
       rw[HFA.out,List.all_eq_false.2 ⟨c,List.mem_of_getElem? hc,by unfold xk;simp;omega⟩];exact rfl
      have e2:(122:Int)<(c.toNat:Int):=by omega
      clear hst hc hall hat ES
      go_wp2
      go_ret
      exact⟨by rw[Dx.out];rfl,nX _ _ _⟩
     ·have e2:decide ((122:Int)<(c.toNat:Int))=false:=by simp;omega
      have hyes:xk c=true:=by unfold xk;simp;omega
      have HA:Hid ((s.take (pos+1)).all xk=true):=by rw[hst,hall.out,hyes];exact rfl
      clear hst hc hall hat ES hyes
      go_wp2
      go_roundw
      case rel=>exact⟨pos+1,by omega,rfl,HA⟩
      case measure=>simp;omega
   ·obtain⟨v,hv⟩:=ai ((Utf8.decode S pos).1)
    have Zy:128<=v:=by rw[hv];exact(decode_high S pos hp (by rw[ES];omega)).1
    have hnx:∀ ty,(Instr.next (.pointer (some ⟨w.heap.size,0,none⟩)) true ty).run Tryz.prog (w.iter S pos)=_:=λty=>run_next_any w S pos ty hp
    rw[<-hv] at hnx
    have Dx:Hid (F=false):=by
     rw[HFA.out,List.all_eq_false.2 ⟨c,List.mem_of_getElem? hc,by unfold xk;simp;omega⟩];exact rfl
    have e1:decide ((v:Int)<97)=false:=by simp;omega
    have e2:(122:Int)<(v:Int):=by omega
    clear hst hc hall hat ES hv
    go_wp2
    go_ret
    exact⟨by rw[Dx.out];rfl,nX _ _ _⟩
  ·obtain rfl:pos=S.size:=by omega
   have hnx:∀ ty,(Instr.next (.pointer (some ⟨w.heap.size,0,none⟩)) true ty).run Tryz.prog (w.iter S S.size)=_:=λty=>run_next_end w S S.size ty hp
   have HFT:Hid (F=true):=by
    have h9:=hall.out
    rw[Au.out,List.take_length] at h9
    rw[HFA.out,h9];exact rfl
   clear hall
   go_wp2
   go_ret
   exact⟨by rw[HFT.out];rfl,nX _ _ _⟩
theorem JL (key:List UInt8):iq (iq key)=iq key:=by
 have h:=qD key
 rw[iq,if_neg (by omega)]
theorem JM (key b:List UInt8):gI (iq key) b=gI key b:=by
 unfold gI uu tH vE dJ;rw[JL]
theorem ET (key info:List UInt8):∀ i,tK (iq key) info i=tK key info i
 | 0=>rfl
 | i+1=>by rw[tK,tK,ET key info i,JM]
theorem Cv (key info:List UInt8):∀ i,j6 (iq key) info i=j6 key info i
 | 0=>rfl
 | i+1=>by rw[j6,j6,Cv key info i,ET]
theorem QY (w:World)(a:Option Addr)(ca:Nat)(key:List UInt8)(hF:fJ w)(hT:bN w)(ha:ag w a ca key)(hk:key.length<=1048576):
  Calls Tryz.prog 188 #[.slice a key.length ca] w λe w'=>∃ d cd r,Hid (r=iq key)/\e=.returned (.tuple #[.slice d r.length cd,.int .i64 0])/\ag w' d cd r/\Below w.heap.size w w':=by
 by_cases h:key.length<=64
 ·have hE:Hid (key=iq key):=by rw[iq,if_neg (by omega)];exact rfl
  have HA:Hid (ag w a ca key):=ha
  have d1:(key.length:Int)<=64:=by omega
  clear ha hF hT
  go_enter Tryz.func188,Tryz.ntmps188
  go_wp2
  go_ret2
  exact⟨a,ca,key,hE,rfl,HA.out,Below.refl _ _⟩
 ·have hof:=SQ w a ca key ha hF hT hk
  have hE:Hid (jR key=iq key):=by rw[iq,if_pos (by omega)];exact rfl
  have d1:decide ((key.length:Int)<=64)=false:=by simp;omega
  clear ha hF hT
  go_enter Tryz.func188,Tryz.ntmps188
  go_wp2_with fail
  refine hof.mono ?_
  rintro e w1 ⟨d,cd,r,hr,rfl,hs,hb⟩
  have HR:Hid (r=iq key):=by rw[hr.out,hE.out];exact rfl
  clear hof hr hE
  go_wp2
  go_ret2
  exact⟨d,cd,r,HR,rfl,hs,hb⟩
theorem EU (w:World)(a:Option Addr)(ca:Nat)(key:List UInt8)(b:Option Addr)(cb:Nat)(info:List UInt8)(m:Nat)(hF:fJ w)(hT:bN w)(ha:ag w a ca key)(hb:ag w b cb info)(hm:m<=8160)(hi:info.length<=1000)(hk:key.length<=1048576):
  Calls Tryz.prog 143 #[.slice a key.length ca,.slice b info.length cb,.int .i64 (m:Int)] w λe w'=>∃ d cd r,Hid (r=eH key info m)/\e=.returned (.tuple #[.slice d m cd,.int .i64 0])/\r.length=m/\ag w' d cd r/\Below w.heap.size w w':=by
 obtain⟨i5,hi5,hz0,hz1,hz2⟩:=info_parts Tryz.info5
 have hfit:=QY w a ca key hF hT ha hk
 have HB:Hid (ag w b cb info):=hb
 have HF:Hid (fJ w):=hF
 have HT:Hid (bN w):=hT
 have d1:decide ((m:Int)<0)=false:=by simp
 have d2:decide ((8160:Int)<(m:Int))=false:=by simp;omega
 have d3:decide ((1000:Int)<(info.length:Int))=false:=by simp;omega
 clear ha hb hF hT
 go_enter Tryz.func143,Tryz.ntmps143
 go_wp2_with fail
 refine hfit.mono ?_
 rintro e w1 ⟨ad,ac,K,hK,rfl,hsK,hb1⟩
 have hKl:K.length<=64:=by rw[hK.out];exact qD key
 have HE:Hid (∀ i,j6 K info i=j6 key info i):=λi=>by rw[hK.out];exact Cv key info i
 have HTT:Hid (∀ i,tK K info i=tK key info i):=λi=>by rw[hK.out];exact ET key info i
 obtain⟨q,hq⟩:=ai ((m+31)/32)
 have HQ:Hid (q=(m+31)/32):=hq
 have Zz:q<=255:=by omega
 have hqd:((m:Int)+32-1)/32=(q:Int):=by omega
 have HSK:Hid (ag w1 ad ac K):=hsK
 clear hfit hK hq hsK
 go_wp2_with (at_make;refine wpList_make_own _ rfl _ _ 24 rfl w1.heap.size 5 i5 (.int .u8 0) 1 Tryz.underlying24 hi5 hz0 hz1 _ _ _ (32*q) rfl rfl ?b1 ?b2 ?b3 (Nat.le_refl _) ?_)
 case b1=>push_cast;omega
 case b2=>rw[hz2];omega
 case b3=>unfold maxLen;omega
 intro w2 hown2 hgrow2
 have hb2:Below w1.heap.size w1 w2:=(Below.refl _ _).grown hgrow2 (Nat.le_refl _) (by intro k h;cases h)
 have TK:Hid (fJ w1):=HF.out.below hb1
 have HT1:Hid (bN w1):=HT.out.below hb1
 have HB1:Hid (ag w1 b cb info):=HB.out.below hb1
 have HQ1:Hid (∀ k,k<=q->¬ k<q->m<=32*k):=λk h1 h2=>by have:=HQ.out;omega
 clear hgrow2 HF HT HB hqd HQ hz0 hz1 hz2 hi5 i5
 go_wp2
 go_loopw [8,10,11,12,38] (λer v t _ j wr=>∃ (k:Nat) (td:Option Addr) (tc:Nat) (T:List UInt8),k<=q/\er=.int .i64 0/\j=.int .i64 (k:Int)/\wr.ownsRow w1.heap.size 5 1 v (32*k) ((j6 K info k).map cellOf)/\t=.slice td T.length tc/\Hid (T=tK K info k)/\T.length<=32/\ag wr td tc T/\Below w1.heap.size w1 wr)
  (λ_ _ _ _ j _=>q-(intOf j).toNat)
 case atStart=>exact⟨0,none,0,[],by omega,rfl,rfl,hown2,rfl,rfl,by simp,ag.nil' _,hb2⟩
 case round=>
  obtain⟨k,td,tc,T,hkq,rfl,rfl,own,rfl,QZ,Pw,Q0,aM⟩:=hrel
  have hcl:(j6 K info k).length=32*k:=jK K info k
  obtain⟨C,hC⟩:=ai (j6 K info k)
  rw[<-hC] at own hcl
  obtain⟨d,cd,hv,GU⟩:=ag.bA own
  rw[hcl] at hv
  subst hv
  clear hown2 hb2
  by_cases hlt:k<q
  ·obtain⟨x3,hx3⟩:∃ x:UInt8,x=UInt8.ofNat (k+1):=⟨_,rfl⟩
   have yh:IntKind.u8.wrap ((k:Int)+1)=(x3.toNat:Int):=by
    rw[hx3,UInt8.toNat_ofNat',IntKind.wrap_u8];omega
   obtain⟨w2',NH⟩:=ai (wr.alloc (.cells #[.int .u8 (x3.toNat:Int)] 5))
   obtain⟨w3,hw3⟩:=ai (w2'.alloc (.cells #[.slice td T.length tc,.slice b info.length cb,.slice (some ⟨wr.heap.size,0,none⟩) 1 1] 24))
   have hs2:w2'.heap.size=wr.heap.size+1:=by rw[NH];simp
   have hs3:w3.heap.size=wr.heap.size+2:=by rw[hw3];simp[hs2]
   have IG:Below w2'.heap.size w2' w3:=by rw[hw3];exact(Below.refl _ _).alloc (Nat.le_refl _) _
   have UK:Below wr.heap.size wr w2':=by rw[NH];exact(Below.refl _ _).alloc (Nat.le_refl _) _
   have NI:Below wr.heap.size wr w3:=UK.trans (IG.mono UK.size)
   have hsx:ag w3 (some ⟨wr.heap.size,0,none⟩) 1 [x3]:=by
    have h9:ag w2' (some ⟨wr.heap.size,0,none⟩) 1 [x3]:=by rw[NH];exact sH wr [x3] 5 (0,0) (by simp)
    exact h9.below IG
   have xg:=aM.trans (NI.mono aM.size)
   have GV:eG [(td,tc,T),(b,cb,info),(some ⟨wr.heap.size,0,none⟩,1,[x3])]=T++info++[x3]:=by simp[eG]
   have hcc:=ER w3 (wr.heap.size+1) [(td,tc,T),(b,cb,info),(some ⟨wr.heap.size,0,none⟩,1,[x3])] (λj p hj=>by
    have hrow:=cell_of_row w3 (wr.heap.size+1) j #[.slice td T.length tc,.slice b info.length cb,.slice (some ⟨wr.heap.size,0,none⟩) 1 1] 24 (0,0) (by rw[hw3,<-hs2];exact heap_alloc_new w2' _)
    match j,hj with
    | 0,hj=>simp at hj;subst hj;exact⟨by rw[hrow];rfl,Q0.below NI⟩
    | 1,hj=>simp at hj;subst hj;exact⟨by rw[hrow];rfl,HB1.out.below xg⟩
    | 2,hj=>simp at hj;subst hj;exact⟨by rw[hrow];rfl,hsx⟩
    | j+3,hj=>simp at hj) (by omega) (by rw[GV];simp;omega) (by rw[GV];simp;omega) (by simp)
   rw[GV] at hcc
   have Xw:Calls Tryz.prog 190 #[.slice (some ⟨wr.heap.size+1,0,none⟩) 3 3] ((wr.alloc (.cells #[.int .u8 (x3.toNat:Int)] 5)).alloc (.cells #[.slice td T.length tc,.slice b info.length cb,.slice (some ⟨wr.heap.size,0,none⟩) 1 1] 24)) λe w'=>∃ d cd r,Hid (r=T++info++[x3])/\e=.returned (.slice d r.length cd)/\ag w' d cd r/\Below w3.heap.size w3 w':=by
    rw[<-NH,<-hw3];exact hcc
   have Xx:Hid (x3=UInt8.ofNat (k+1)):=hx3
   have NJ:Hid (w3.ownsRow w1.heap.size 5 1 (.slice d (32*k) cd) (32*k) (C.map cellOf)):=gW own NI
   have hlt3:Hid (∀ g,(Value.slice d (32*k) cd).ownBlock=some g->g<w3.heap.size):=λg h=>Nat.lt_of_lt_of_le (own.lt _ h).2 NI.size
   have Xy:Hid (j6 K info (k+1)=C++tK K info (k+1)):=by rw[hC];exact rfl
   have UL:Hid (Below w1.heap.size w1 w3):=xg
   have Xz:Hid (gI K (T++info++[x3])=tK K info (k+1)):=by rw[QZ.out,hx3];exact rfl
   have HXl:Hid ((T++info++[x3]).length<=2000):=by
    have h9:(T++info++[x3]).length<=2000:=by simp;omega
    exact h9
   clear hcc GV hsx IG UK NI hs2 hs3 hw3 NH hx3 own hC GU Q0 aM xg QZ Pw hcl
   go_wp2_with fail
   refine Xw.mono ?_
   rintro e w4 ⟨xd,xc,X,hX,rfl,XA,hb4⟩
   have AA:=UL.out.trans (hb4.mono UL.out.size)
   have hof:=GQ w4 ad ac K xd xc X (TK.out.below AA) (HT1.out.below AA) (HSK.out.below AA) XA (by omega) (by have:=HXl.out;rw[<-hX.out] at this;omega)
   have JN:Hid (w4.ownsRow w1.heap.size 5 1 (.slice d (32*k) cd) (32*k) (C.map cellOf)):=gW NJ.out hb4
   have Q3:Hid (∀ g,(Value.slice d (32*k) cd).ownBlock=some g->g<w4.heap.size):=λg h=>Nat.lt_of_lt_of_le (hlt3.out g h) hb4.size
   have UM:Hid (gI K X=tK K info (k+1)):=by rw[hX.out];exact Xz.out
   have UN:Hid (Below w1.heap.size w1 w4):=AA
   clear Xw hX XA hb4 AA UL NJ hlt3 HXl Xz yh Xx
   go_wp2_with fail
   refine hof.mono ?_
   rintro e w5 ⟨d5,c5,D,hD,rfl,hs5,hb5,qM⟩
   obtain⟨i5,hi5,hz0,hz1,hz2⟩:=info_parts Tryz.info5
   have yu:=UN.out.trans (hb5.mono UN.out.size)
   have hDl:D.length=32:=by rw[hD.out];exact gZ _ _
   have NK:=gW JN.out hb5
   obtain⟨SS,rfl⟩:∃ SS,d5=some SS:=by obtain⟨b,off,h,_⟩:=hs5.at' (by intro h;rw[h] at hDl;simp at hDl);exact⟨_,h⟩
   obtain⟨v6,w6,SV,lQ,hg6,_⟩:=run_append_own (P:=Tryz.prog) w5 w1.heap.size 24 24 5 i5 (.int .u8 0) 1 1 Tryz.underlying24 hi5 hz0 hz1 hz2 rfl (by omega) _ (32*k) (C.map cellOf) NK SS D.length c5 (D.map cellOf) (by simp) (hs5.news SS rfl) (bu D) (by unfold maxLen;omega) (by omega) yu.size
   have XB:Below w1.heap.size w1 w6:=yu.grown hg6 yu.size (λk hk=>(NK.lt _ hk).1)
   have hs6:ag w6 (some SS) c5 D:=hs5.grown' hg6 (λb' off hh _ hrow=>by
    have h1:=(qM.lt b' (by simp[Value.ownBlock] at hh ⊢;rw[hh])).1
    have h2:=Q3.out b' hrow
    omega)
   have R6:Hid ((Builtin.append_ #[24,24] 24 #[.slice d (32*k) cd,.slice (some SS) D.length c5]).run Tryz.prog w5=.ok v6 w6):=SV
   have YV:Hid (w6.ownsRow w1.heap.size 5 1 v6 (32*(k+1)) ((j6 K info (k+1)).map cellOf)):=by
    rw[Xy.out,<-UM.out,<-hD.out,List.map_append,show 32*(k+1)=32*k+D.length from by omega];exact lQ
   have HD:Hid (D=tK K info (k+1)):=by rw[hD.out,UM.out];exact rfl
   have HDl:Hid (D.length<=32):=by rw[hDl];exact Nat.le_refl _
   have HS6:Hid (ag w6 (some SS) c5 D):=hs6
   have YW:Hid (Below w1.heap.size w1 w6):=XB
   clear hof SV lQ hg6 qM JN NK hs5 hs6 hb5 yu XB Q3 hD hDl Xy UM UN hz0 hz1 hz2 hi5 i5
   go_wp2_with (at_builtin;refine wpList_append_run rfl _ _ 24 rfl _ _ _ rfl rfl R6.out ?_)
   go_roundw
   case rel=>exact⟨k+1,some SS,c5,D,by omega,rfl,by go_num,YV.out,rfl,HD,HDl.out,HS6.out,YW.out⟩
   case measure=>simp[intOf];omega
  ·have hmk:=HQ1.out k hkq hlt
   have hr:C.take m=eH key info m:=by rw[hC,HE.out k];exact zg key info k m hmk
   have HR:Hid (C.take m=eH key info m):=hr
   have hsm:=GU.take m
   have hlm:(C.take m).length=m:=by rw[List.length_take,hcl];omega
   have hfit:=GU.fits
   rw[hcl] at hfit
   have XC:ag wr d m (C.take m):=⟨by omega,by unfold maxLen;omega,λh=>by have:=GU.bare h;omega,hsm.at'⟩
   have BEL:Hid (Below w.heap.size w wr):=hb1.trans (aM.mono hb1.size)
   by_cases hk0:k=0
   ·obtain rfl:m=0:=by omega
    subst hk0
    clear hr hC Q0 Pw QZ own hcl GU hsm aM
    go_wp2
    go_ret2
    exact⟨d,0,C.take 0,HR,rfl,hlm,XC,BEL.out⟩
   ·obtain⟨gb,go,rfl,_⟩:=GU.at' (by intro h;rw[h] at hcl;simp at hcl;omega)
    have hnc:m<=cd:=by omega
    clear hr hC Q0 Pw QZ own GU hsm aM
    go_wp2
    go_ret2
    exact⟨_,m,C.take m,HR,rfl,hlm,XC,BEL.out⟩
theorem JO (w:World)(a:Option Addr)(ca:Nat)(key:List UInt8)(b:Option Addr)(cb:Nat)(info:List UInt8)(n:Int)(him:info.length<=9223372036854775807)(h:n<0\/8160<n\/1000<info.length):
  Calls Tryz.prog 143 #[.slice a key.length ca,.slice b info.length cb,.int .i64 n] w λe w'=>Says w w' e (bO key info n):=by
 by_cases h1:n<0
 ·have hE:bO key info n=([],1):=by unfold bO;rw[if_pos (.inl h1)]
  rw[hE]
  clear hE h
  go_enter Tryz.func143,Tryz.ntmps143
  go_wp2
  go_ret2
  exact Says.nothing 1 (Below.refl _ _)
 have d1:decide (n<0)=false:=by simp;omega
 by_cases h2:8160<n
 ·have hE:bO key info n=([],1):=by unfold bO;rw[if_pos (.inr h2)]
  rw[hE]
  clear hE h
  go_enter Tryz.func143,Tryz.ntmps143
  go_wp2
  go_ret2
  exact Says.nothing 1 (Below.refl _ _)
 have d2:decide (8160<n)=false:=by simp;omega
 have h3:1000<info.length:=by omega
 have hE:bO key info n=([],2):=by unfold bO;rw[if_neg (by omega),if_pos (.inl h3)]
 rw[hE]
 clear hE h
 go_enter Tryz.func143,Tryz.ntmps143
 go_wp2
 go_ret2
 exact Says.nothing 2 (Below.refl _ _)
theorem EW:uz:=by
 intro w a ca key b cb info n hF hT ha hb hk
 have him:info.length<=9223372036854775807:=by have:=hb.fits;have:=hb.room;unfold maxLen at this;omega
 by_cases h:n<0\/8160<n\/1000<info.length
 ·exact JO w a ca key b cb info n him h
 ·obtain⟨m,rfl⟩:∃ m:Nat,n=m:=⟨n.toNat,by omega⟩
  have hE:bO key info (m:Int)=(eH key info m,0):=by unfold bO;rw[if_neg (by omega),if_neg (by omega)];simp
  rw[hE]
  refine(EU w a ca key b cb info m hF hT ha hb (by omega) (by omega) (by omega)).mono ?_
  rintro e w' ⟨d,cd,r,hr,rfl,hl,hs,hbl⟩
  exact⟨d,cd,r,hr,by rw[hl];rfl,hs,hbl⟩
end Go.Proofs.YtmffplhaclnehaaGreatDoor
