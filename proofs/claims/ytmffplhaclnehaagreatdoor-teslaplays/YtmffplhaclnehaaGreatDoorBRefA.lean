/- A helper. -/
import Derived.Deep.DrawnRows
import Derived.Test.YtmffplhaclnehaaGreatDoorBufR
namespace Go.Proofs.YtmffplhaclnehaaGreatDoor
set_option maxRecDepth 20000
open Go.ChangeShapes Go.WideShapes Go.ChangeAt Go.RowKit
variable {H:Type}
theorem Qp {enc:TypeId×Value->H}{W:World}{fuel:Nat}{a:Option Addr}{len cap:Nat}{d:DataW H}{p:List MemPlace}(hf:DataW.trod enc Tryz.prog W 0 (λ_=>true) true fuel 26 (Value.slice a len cap).cells.toList=some (d,p)):
  ∃ L:List (List UInt8),len=L.length/\qK W a cap L/\True:=by
 rcases Deep.open_int_rows Tryz.underlying26 Tryz.underlying24 Tryz.underlying5 (by kernel_rfl) (by kernel_rfl) hf with ⟨hcs,_⟩|⟨ad,l,c,A,Ln,C,Z,hcs,_,hl,hm,_,hrow⟩
 ·simp[Value.cells] at hcs
  obtain⟨rfl,rfl,rfl⟩:=hcs
  exact⟨[],rfl,⟨by simp,by simp,λr bs h=>by simp at h⟩,trivial⟩
 ·simp[Value.cells] at hcs
  obtain⟨rfl,rfl,rfl⟩:=hcs
  refine⟨(List.range len).map λr=>((Z r).take (Ln r)).map λz=>UInt8.ofNat z.toNat,by simp,⟨by simpa using hl,hm,λr bs hr=>?_⟩,trivial⟩
  have hrl:r<len:=by have:=(List.getElem?_eq_some_iff.1 hr).1;simpa using this
  have hbs:bs=((Z r).take (Ln r)).map λz=>UInt8.ofNat z.toNat:=by
   simp[hrl] at hr;rw[<-hr,List.map_take]
  obtain⟨hc,h1,h2,h3,h4,h5,h6⟩:=hrow r (by omega)
  obtain⟨b,off,spot⟩:=ad
  have hspot:spot=none:=by
   have:=World.cell?_spot (hrow 0 (by omega)).1
   simpa [Addr.add] using this
  subst hspot
  rw[Addr.add_lit] at hc
  have hbl:bs.length=Ln r:=by rw[hbs];simp;omega
  refine⟨b,off,rfl,A r,C r,by rw[hbl];exact hc,⟨by omega,h2,h5,λhne=>?_⟩⟩
  have h0:0<Ln r:=by rw[<-hbl];exact List.length_pos_iff.2 hne
  cases hA:A r with
  | none=>have:=h5 hA;omega
  | some a' =>
    obtain ⟨_, hcc⟩ := h6 a' hA
    obtain ⟨b2, o2, sp2⟩ := a'
    have hsp2 : sp2 = none := by
      have := World.cell?_spot (hcc 0 (by omega))
      simpa [Addr.add] using this
    subst hsp2
    refine ⟨b2, o2, rfl, fun i y hy => ?_⟩
    have hi : i < Ln r := by rw [← hbl]; exact (List.getElem?_eq_some_iff.1 hy).1
    have hci := hcc i (by omega)
    rw [Addr.add_lit] at hci
    rw [hci]
    have hb := bounds_u8 (h4 ((Z r).getD i 0) (by rw [List.getD_eq_getElem?_getD, List.getElem?_eq_getElem (by omega)]; exact List.getElem_mem _))
    have e1 : y = UInt8.ofNat ((Z r).getD i 0).toNat := by
      rw [hbs] at hy
      simp [hi] at hy
      obtain ⟨q, hq, rfl⟩ := hy
      simp [hq]
    rw [e1]
    congr 2
    rw [UInt8.toNat_ofNat']
    omega
theorem oq {P:Program}{e:TypeId}:∀ {l:List (DataW H)} {d:DataW H},d∈l->∀ n∈d.weights P e,n∈DataW.weightsAll P e l
 | x :: l, d, h, n, hn => by
   simp only [DataW.weightsAll, List.mem_append]
   rcases List.mem_cons.1 h with rfl | h
   · exact .inl hn
   · exact .inr (oq h n hn)
 | [],_,h,_,_=>by simp at h
theorem uK {enc:TypeId×Value->H}{W:World}{fuel:Nat}{a:Option Addr}{len cap:Nat}{d:DataW H}{p:List MemPlace}(hf:DataW.trod enc Tryz.prog W 0 (λ_=>true) true fuel 26 (Value.slice a len cap).cells.toList=some (d,p)){ts:List TypeId}{ds:List (DataW H)}{j:Nat}(hsz:(DataW.weightsEach Tryz.prog ts ds).all (· <= reachBytes)=true)(hj:ts[j]?=some 26)(hd:ds[j]?=some d):
  ∃ L:List (List UInt8),len=L.length/\qK W a cap L/\∀ l∈L,l.length<=140737488351232:=by
 rcases Deep.open_int_rows Tryz.underlying26 Tryz.underlying24 Tryz.underlying5 (by kernel_rfl) (by kernel_rfl) hf with ⟨hcs,_⟩|⟨ad,l,c,A,Ln,C,Z,hcs,_,hl,hm,hdx,hrow⟩
 ·simp[Value.cells] at hcs
  obtain⟨rfl,rfl,rfl⟩:=hcs
  exact⟨[],rfl,⟨by simp,by simp,λr bs h=>by simp at h⟩,by simp⟩
 ·simp[Value.cells] at hcs
  obtain⟨rfl,rfl,rfl⟩:=hcs
  refine⟨(List.range len).map λr=>((Z r).take (Ln r)).map λz=>UInt8.ofNat z.toNat,by simp,⟨by simpa using hl,hm,λr bs hr=>?_⟩,λl hlm=>?_⟩
  rotate_left
  ·obtain⟨r,hr,rfl⟩:=List.mem_map.1 hlm
   rw[List.mem_range] at hr
   obtain⟨_,h1,_,h3,_,h5,_⟩:=hrow r (by omega)
   simp only[Prod.mk.injEq] at hdx
   have hle:(((Z r).take (Ln r)).map λz=>UInt8.ofNat z.toNat).length<=(Z r).length:=by simp;omega
   refine Nat.le_trans hle ?_
   cases hA:A r with
   | none=>have:=h5 hA;omega
   | some a' =>
     have hmem : (Deep.intRow .u8 (A r) (Ln r) (Z r) : DataW H) ∈ ((List.range len).map fun r => Deep.intRow .u8 (A r) (Ln r) (Z r)) := List.mem_map.2 ⟨r, List.mem_range.2 hr, rfl⟩
     have hwt : (Z r).length ∈ (Deep.intRow .u8 (A r) (Ln r) (Z r) : DataW H).weights Tryz.prog 24 := by
       simp only [Deep.intRow, hA, DataW.weights, Tryz.underlying24]
       refine List.mem_cons.2 (.inl ?_)
       rw [show Tryz.prog.bytesOf 5 = 1 by kernel_rfl]
       simp [lits]; omega
     have h9 : (Z r).length ∈ d.weights Tryz.prog 26 := by
       rw [hdx.1]
       simp only [DataW.weights, Tryz.underlying26]
       exact List.mem_cons.2 (.inr (List.mem_append.2 (.inl (oq hmem _ hwt))))
     have := List.all_eq_true.1 hsz _ (DataW.weights_mem_each hj hd _ h9)
     exact of_decide_eq_true this
  have hrl:r<len:=by have:=(List.getElem?_eq_some_iff.1 hr).1;simpa using this
  have hbs:bs=((Z r).take (Ln r)).map λz=>UInt8.ofNat z.toNat:=by
   simp[hrl] at hr;rw[<-hr,List.map_take]
  obtain⟨hc,h1,h2,h3,h4,h5,h6⟩:=hrow r (by omega)
  obtain⟨b,off,spot⟩:=ad
  have hspot:spot=none:=by
   have:=World.cell?_spot (hrow 0 (by omega)).1
   simpa [Addr.add] using this
  subst hspot
  rw[Addr.add_lit] at hc
  have hbl:bs.length=Ln r:=by rw[hbs];simp;omega
  refine⟨b,off,rfl,A r,C r,by rw[hbl];exact hc,⟨by omega,h2,h5,λhne=>?_⟩⟩
  have h0:0<Ln r:=by rw[<-hbl];exact List.length_pos_iff.2 hne
  cases hA:A r with
  | none=>have:=h5 hA;omega
  | some a' =>
    obtain ⟨_, hcc⟩ := h6 a' hA
    obtain ⟨b2, o2, sp2⟩ := a'
    have hsp2 : sp2 = none := by
      have := World.cell?_spot (hcc 0 (by omega))
      simpa [Addr.add] using this
    subst hsp2
    refine ⟨b2, o2, rfl, fun i y hy => ?_⟩
    have hi : i < Ln r := by rw [← hbl]; exact (List.getElem?_eq_some_iff.1 hy).1
    have hci := hcc i (by omega)
    rw [Addr.add_lit] at hci
    rw [hci]
    have hb := bounds_u8 (h4 ((Z r).getD i 0) (by rw [List.getD_eq_getElem?_getD, List.getElem?_eq_getElem (by omega)]; exact List.getElem_mem _))
    have e1 : y = UInt8.ofNat ((Z r).getD i 0).toNat := by
      rw [hbs] at hy
      simp [hi] at hy
      obtain ⟨q, hq, rfl⟩ := hy
      simp [hq]
    rw [e1]
    congr 2
    rw [UInt8.toNat_ofNat']
    omega
end Go.Proofs.YtmffplhaclnehaaGreatDoor
namespace Go.Proofs.YtmffplhaclnehaaGreatDoor
set_option maxRecDepth 20000
set_option maxHeartbeats 1600000
open Go.ChangeShapes Go.WideShapes Go.ChangeAt Go.RowKit
variable {w w' W W':World} {r most lost:Nat} {v vo vl:Value} {s:Bs} {ss ls:List eU} {os:List Bl}
def RA (w:World)(r most:Nat)(v:Value)(lost:Nat):Prop:=w.heap[r]?=some (.cells #[.int .i64 (most:Int),v,.int .i64 (lost:Int)] 53 (0,0))
theorem RA.lt (h:RA w r most v lost):r<w.heap.size:=(Array.getElem?_eq_some_iff.1 h).1
theorem RA.keep (h:RA w r most v lost)(hb:w'.heap[r]?=w.heap[r]?):RA w' r most v lost:=hb.trans h
theorem RA.c0 (h:RA w r most v lost):w.cell? ⟨r,0,none⟩=some (.int .i64 (most:Int)):=cell_of_row w _ 0 _ _ _ h
theorem RA.c1 (h:RA w r most v lost):w.cell? ⟨r,1,none⟩=some v:=cell_of_row w _ 1 _ _ _ h
theorem RA.c2 (h:RA w r most v lost):w.cell? ⟨r,2,none⟩=some (.int .i64 (lost:Int)):=cell_of_row w _ 2 _ _ _ h
theorem RA.fz (h:RA w r most v lost)(i:Nat):w.frozen? ⟨r,i,none⟩=false:=frozen_of_row _ _ i _ _ h
theorem RA.Lx (h:RA w r most v lost)(x:Value):RA (w.setCell ⟨r,1,none⟩ x) r most x lost:=by
 show (w.setCell ⟨r,1,none⟩ _).heap[r]?=_
 rw[heap_setCell_same _ _ _ _ _ _ h];rfl
theorem RA.PU (h:RA w r most v lost)(x:Nat):RA (w.setCell ⟨r,2,none⟩ (.int .i64 (x:Int))) r most v x:=by
 show (w.setCell ⟨r,2,none⟩ _).heap[r]?=_
 rw[heap_setCell_same _ _ _ _ _ _ h];rfl
theorem RA.plain (h:RA w r most v lost)(hv:∀ k y,v=Value.int k y->(k==IntKind.u8)=false):Plain w r:=by
 refine kJ.plain (cur:=#[.int .i64 (most:Int),v,.int .i64 (lost:Int)]) (λu hu k y=>?_) h
 simp only[List.mem_cons,List.not_mem_nil,or_false] at hu
 rcases hu with rfl|rfl|rfl
 ·intro e;cases e;rfl
 ·exact hv k y
 ·intro e;cases e;rfl
structure oF (w:World)(r:Nat)(v:Value)(s:Bs)(ss:List eU):Prop where
 at':RA w r s.most v s.lost
 row:Row zM w v ss
 its:ss.map Prod.fst=s.L
 seen:kK w ss
 ok:s.ok
def DK (r:Nat)(v:Value):Nat->Prop:=λk=>k=r\/v.ownBlock=some k
theorem oF.lt (h:oF w r v s ss){k:Nat}(hk:DK r v k):k<w.heap.size:=by
 rcases hk with rfl|hk
 ·exact h.at'.lt
 ·exact h.row.lt hk
theorem oF.plain (h:oF w r v s ss){k:Nat}(hk:DK r v k):Plain w k:=by
 rcases hk with rfl|hk
 ·exact h.at'.plain h.row.LA
 ·exact h.row.plain hk
theorem oF.apart {F:Nat->Prop}(h:oF w r v s ss)(ha:Apart F w w')(hF:∀ k,F k->¬ DK r v k)(hp:∀ k,F k->Plain w k):oF w' r v s ss:=
 have hb:∀ k,DK r v k->w'.heap[k]?=w.heap[k]?:=λk hk=>ha.block k (h.lt hk) (λhf=>hF k hf hk)
 ⟨h.at'.keep (hb r (.inl rfl)),h.row.keep λk hk=>hb k (.inr hk),h.its,h.seen.apart ha hp,h.ok⟩
theorem oF.below (h:oF w r v s ss)(hb:Below w.heap.size w w'):oF w' r v s ss:=
 h.apart (F:=λ_=>False) (Apart.of_below hb) (λ_ h=>h.elim) (λ_ h=>h.elim)
theorem oF.vr (h:oF w r v s ss):v.ownBlock≠some r:=by
 intro e
 obtain⟨cur,h1,_⟩:=h.row.isRow e
 have h2:=h.at'
 unfold RA at h2
 rw[h1] at h2;cases h2
theorem oF.len (h:oF w r v s ss):ss.length=s.L.length/\s.L.length<=64:=by
 have h1:=congrArg List.length h.its
 have:=h.ok.len
 have:=h.ok.hi
 simp at h1
 omega
def fB (w:World)(r:Nat)(v:Value)(s':Bs)(w':World):Prop:=∃ v' ss',oF w' r v' s' ss'/\Apart (λk=>k=r) w w'/\∀ k,v'.ownBlock=some k->v.ownBlock=some k\/w.heap.size<=k
theorem fB.refl (h:oF w r v s ss)(hb:Below w.heap.size w W):fB w r v s W:=
 ⟨v,ss,h.below hb,Apart.of_below hb,λ_ hk=>.inl hk⟩
theorem PV (w:World)(x:Nat)(h1:1<=x)(h2:x<=64):Calls Tryz.prog 32 #[.int .i64 (x:Int)] w λe w'=>e=.returned (.tuple #[.pointer (some ⟨w.heap.size,0,none⟩),.int .i64 0])/\oF w' w.heap.size (.slice none 0 0) ⟨x,0,[]⟩ []/\Below w.heap.size w w':=by
 have g1:¬ ((x:Int)<1):=by omega
 have g2:¬ (64<(x:Int)):=by omega
 obtain⟨W,hW⟩:=ai (w.alloc (.cells #[.int .i64 (x:Int),.slice none 0 0,.int .i64 0] 53))
 have hb:Below w.heap.size w W:=by rw[hW];exact(Below.refl _ _).alloc (Nat.le_refl _) _
 have r1:RA W w.heap.size x (.slice none 0 0) 0:=by rw[hW];exact heap_alloc_new _ _
 have HE:Hid (oF W w.heap.size (.slice none 0 0) ⟨x,0,[]⟩ []/\Below w.heap.size w W):=⟨⟨r1,Row.nil _ _,rfl,(λy hy=>by cases hy),⟨h1,h2,by simp,λy hy=>by cases hy⟩⟩,hb⟩
 have HW:Hid (W=w.alloc (.cells #[.int .i64 (x:Int),.slice none 0 0,.int .i64 0] 53)):=hW
 clear hb r1 hW h1 h2
 go_enter Tryz.func32,Tryz.ntmps32
 go_wp2
 rw[<-HW.out]
 go_ret2
 exact⟨rfl,HE.out⟩
theorem LB (L:List It)(x:It)(k:Key):cnt (L++[x]) k=cnt L k+(if x.k=k then 1 else 0):=by rw[qR,zN]
theorem zO {x:It}{k:Key}:x.k=k↔x.e=k.1/\x.i=k.2:=by
 constructor
 ·intro h;subst h;exact⟨rfl,rfl⟩
 ·intro h;exact Prod.ext h.1 h.2
theorem yC (w:World)(r:Nat)(v:Value)(s:Bs)(ss:List eU)(h:oF w r v s ss)(k:Key):
  Calls Tryz.prog 83 #[.pointer (some ⟨r,0,none⟩),.int .i64 k.1,.int .i64 k.2] w λe w'=>e=.returned (.int .i64 (cnt s.L k:Int))/\w'=w:=by
 obtain⟨a,cap,rfl,hcap,hmax,-⟩:=h.row.shape
 obtain⟨hlen,h64⟩:=h.len
 have c1:=h.at'.c1
 have HR:Hid (Row zM w (.slice a ss.length cap) ss/\ss.map Prod.fst=s.L):=⟨h.row,h.its⟩
 obtain⟨N,hN⟩:=ai ss.length
 rw[<-hN] at c1 hcap HR
 have HN:Hid (N=ss.length/\N=s.L.length):=⟨hN,by omega⟩
 have PW:N<=64:=by omega
 have hcm:cap<=9223372036854775807:=by unfold maxLen at hmax;omega
 obtain⟨k1,k2⟩:=k
 clear h hlen h64 hN hmax
 go_enter Tryz.func83,Tryz.ntmps83
 go_wp2
 go_loopw [7,8] (λs7 s8 wr=>∃ t:Nat,s8=.int .i64 (t:Int)/\t<=N/\s7=.int .i64 (cnt (s.L.take t) (k1,k2):Int)/\w=wr) (λ_ s8 _=>N-(intOf s8).toNat)
 case atStart=>exact⟨0,rfl,Nat.zero_le _,rfl,rfl⟩
 case round=>
  obtain⟨t,rfl,ht,rfl,rfl⟩:=hrel
  by_cases hlt:t<N
  ·obtain⟨x,hx⟩:∃ x,ss[t]?=some x:=⟨ss[t]'(by have:=HN.out;omega),by rw[List.getElem?_eq_getElem]⟩
   have hx':s.L[t]?=some x.1:=by rw[<-HR.out.2,List.getElem?_map,hx];rfl
   have hsn:cnt (s.L.take (t+1)) (k1,k2)=cnt (s.L.take t) (k1,k2)+(if x.1.k=(k1,k2) then 1 else 0):=by rw[bJ _ _ _ hx',LB]
   obtain⟨-,q,rfl,hcell⟩:=HR.out.1.get hx
   have x0:=hcell 0 _ rfl
   have x1:=hcell 1 _ rfl
   rw[show zM.n=3 from rfl] at x0 x1
   rw[Nat.add_zero] at x0
   have hle:cnt (s.L.take t) (k1,k2)<=64:=Nat.le_trans (DL _ _) (by rw[List.length_take];omega)
   obtain⟨c,hc⟩:=ai (cnt (s.L.take t) (k1,k2))
   rw[<-hc] at hle hsn ⊢
   have g1:(t:Int)<(N:Int):=by omega
   have g2:(0:Int)<=(t:Int):=Int.natCast_nonneg _
   have e1:IntKind.i64.wrap ((t:Int)+1)=((t+1:Nat):Int):=by rw[IntKind.wrap_i64];omega
   have e2:IntKind.i64.wrap ((c:Int)+1)=((c+1:Nat):Int):=by rw[IntKind.wrap_i64];omega
   have HJ:Hid (t<N):=hlt
   obtain⟨xe,hxe⟩:=ai x.1.e
   obtain⟨xi,hxi⟩:=ai x.1.i
   have hke:(x.1.k=(k1,k2))↔(xe=k1/\xi=k2):=by rw[zO,hxe,hxi]
   have x0':w.cell? ⟨q,t*3,none⟩=some (.int .i64 xe):=by rw[hxe];exact x0
   have x1':w.cell? ⟨q,t*3+1,none⟩=some (.int .i64 xi):=by rw[hxi];exact x1
   have HS:Hid (cnt (s.L.take (t+1)) (k1,k2)=c+(if xe=k1/\xi=k2 then 1 else 0)):=by
    show cnt (s.L.take (t+1)) (k1,k2)=_
    rw[hsn]
    by_cases h9:x.1.k=(k1,k2)
    ·rw[if_pos h9,if_pos (hke.1 h9)]
    ·rw[if_neg h9,if_neg (λe=>h9 (hke.2 e))]
   clear hx hx' hsn hcell x0 x1 hc hxe hxi hke ht hlt
   by_cases h1:xe=k1
   ·subst h1
    by_cases h2:xi=k2
    ·subst h2
     go_wp2
     go_roundw
     case rel=>exact⟨t+1,by first|rfl|(congr 1;omega),by have:=HJ.out;omega,by rw[HS.out,if_pos ⟨rfl,rfl⟩];first|rfl|(congr 1;omega),trivial⟩
     case measure=>have:=HJ.out;simp[intOf];omega
    ·go_wp2
     go_roundw
     case rel=>exact⟨t+1,by first|rfl|(congr 1;omega),by have:=HJ.out;omega,by rw[HS.out,if_neg (λe=>h2 e.2)];first|rfl|(congr 1;omega),trivial⟩
     case measure=>have:=HJ.out;simp[intOf];omega
   ·go_wp2
    go_roundw
    case rel=>exact⟨t+1,by first|rfl|(congr 1;omega),by have:=HJ.out;omega,by rw[HS.out,if_neg (λe=>h1 e.1)];first|rfl|(congr 1;omega),trivial⟩
    case measure=>have:=HJ.out;simp[intOf];omega
  ·have HE:Hid (s.L.take t=s.L):=List.take_of_length_le (by have:=HN.out;omega)
   rw[show s.L.take t=s.L from HE.out]
   have g1:¬ (t:Int)<(N:Int):=by omega
   clear ht hlt
   go_wp2
   go_ret
   exact⟨rfl,rfl⟩
theorem Row.zP {α:Type}{E:Enc α}{q len cap:Nat}{xs:List α}(h:Row E w (.slice (some ⟨q,0,none⟩) len cap) xs):∀ (j:Nat) (u:Value),(E.cs xs)[j]?=some u->w.cell? ⟨q,j,none⟩=some u:=by
 intro j u hu
 obtain⟨a,c,e,_,_,_,_,hc⟩:=h.shape
 cases e
 obtain⟨q',e2,h2⟩:=hc j u hu
 cases e2
 exact h2
theorem Row.empty {α:Type}(E:Enc α)(w:World):Row E (w.alloc (.cells #[] E.T)) (.slice (some ⟨w.heap.size,0,none⟩) 0 0) []:=
 .inr ⟨w.heap.size,0,#[],rfl,heap_alloc_new w _,Nat.le_refl _,Nat.zero_le _,by simp,by simp[Enc.cs],λu hu=>by simp at hu⟩
theorem DN (w:World)(r:Nat)(v:Value)(s:Bs)(ss:List eU)(h:oF w r v s ss)(j:Nat)(hj:j<s.L.length):
  Calls Tryz.prog 84 #[.pointer (some ⟨r,0,none⟩),.int .i64 (j:Int)] w λe w'=>e=.returned (.tuple #[])/\fB w r v { s with L:=s.L.eraseIdx j } w':=by
 obtain⟨hlen,h64⟩:=h.len
 obtain⟨x,hx⟩:∃ x,ss[j]?=some x:=⟨ss[j]'(by omega),by rw[List.getElem?_eq_getElem]⟩
 obtain⟨a,cap,rfl,hcap,hmax,-⟩:=h.row.shape
 obtain⟨-,q,rfl,-⟩:=h.row.get hx
 have hcm:cap<=9223372036854775807:=by unfold maxLen at hmax;omega
 obtain⟨W0,hW0⟩:=ai (w.alloc (.cells #[] 140))
 have hb0:Below w.heap.size w W0:=by rw[hW0];exact(Below.refl _ _).alloc (Nat.le_refl _) _
 have h0:=h.below hb0
 have hE0:Row zM W0 (.slice (some ⟨w.heap.size,0,none⟩) 0 0) []:=by rw[hW0];exact Row.empty zM w
 obtain⟨v1,w1,gG,oM,vQ,hnew1⟩:=hE0.append (ss.take j) (by simp;omega) (some ⟨q,0,none⟩) cap (λ_=>⟨q,0,rfl,λt u hu=>by
  rw[Nat.zero_add]
  refine h0.row.zP t u ?_
  rw[<-zM.FR ss j (by omega),List.getElem?_take] at hu
  split at hu
  ·exact hu
  ·cases hu⟩)
 rw[List.nil_append] at oM
 rw[List.length_take,Nat.min_eq_left (by omega)] at gG
 have hq:q<w.heap.size:=h.row.lt rfl
 have hb1:Below w.heap.size w w1:=vQ.below hb0 (λk hk=>by cases hk;exact Nat.le_refl _) hb0.size
 have h1:=h.below hb1
 obtain⟨A,hA,hA2⟩:∃ A:Addr,(if cap=j+1 then some (⟨q,0,none⟩:Addr) else some ⟨q,(j+1)*3,none⟩)=some A/\(j+1<ss.length->A=⟨q,(j+1)*3,none⟩):=by
  by_cases h:cap=j+1
  ·exact⟨⟨q,0,none⟩,by simp[h],λ_=>by omega⟩
  ·exact⟨⟨q,(j+1)*3,none⟩,by simp[h],λ_=>rfl⟩
 obtain⟨v2,w2,bP,hrow2,jh,hnew2⟩:=oM.append (ss.drop (j+1)) (by simp;omega) (some A) (cap-(j+1)) (λhne=>by
  have hlt:j+1<ss.length:=by
   rcases Nat.lt_or_ge (j+1) ss.length with h|h
   ·exact h
   ·exact absurd (List.drop_of_length_le h) hne
  refine⟨q,(j+1)*3,by rw[hA2 hlt],λt u hu=>?_⟩
  refine h1.row.zP _ u ?_
  rw[<-zM.zQ ss (j+1) (by omega),List.getElem?_drop] at hu
  exact hu)
 rw[List.length_drop] at bP
 have hown1:∀ k,v1.ownBlock=some k->w.heap.size<=k:=λk hk=>by
  rcases hnew1 k hk with e|e
  ·cases e;exact Nat.le_refl _
  ·exact Nat.le_trans hb0.size e
 have hb2:Below w.heap.size w w2:=jh.below hb1 hown1 hb1.size
 have h2:=h.below hb2
 obtain⟨a1,cp1,rfl,-⟩:=oM.shape
 obtain⟨a2,cp2,rfl,-⟩:=hrow2.shape
 rw[List.length_take,Nat.min_eq_left (by omega)] at gG bP
 have el:(ss.take j++ss.drop (j+1)).length=ss.length-1:=by simp;omega
 rw[el] at bP hnew2
 have hag:Apart (λk=>k=r) w2 (w2.setCell ⟨r,1,none⟩ (.slice a2 (ss.length-1) cp2)):=(Apart.refl (λk=>k=r) w2).setCell (b:=r) (.inl rfl) 1 _
 have hown2:∀ k,(Value.slice a2 (ss.length-1) cp2).ownBlock=some k->w.heap.size<=k:=λk hk=>by
  rcases hnew2 k hk with e|e
  ·exact hown1 k ((kL _ _ _ _ _).trans e)
  ·exact Nat.le_trans hb1.size e
 have hr:=h.at'.lt
 have HE:Hid (fB w r (.slice (some ⟨q,0,none⟩) ss.length cap) { s with L:=s.L.eraseIdx j } (w2.setCell ⟨r,1,none⟩ (.slice a2 (ss.length-1) cp2))):=by
  rw[el] at hrow2
  refine⟨_,ss.take j++ss.drop (j+1),⟨h2.at'.Lx _,hrow2.apart hag λk hk e=>by have:=hown2 k hk;omega,?_,λy hy=>?_,?_⟩,(Apart.of_below (F:=λk=>k=r) hb2).trans hag λi hi=>.inl hi,λk hk=>.inr (hown2 k hk)⟩
  ·show _=s.L.eraseIdx j
   rw[<-h.its,List.eraseIdx_eq_take_drop_succ,List.map_append,List.map_take,List.map_drop]
  ·refine ag.apart (h2.seen y ?_) hag λk hk=>hk▸h2.plain (.inl rfl)
   rcases List.mem_append.1 hy with hy|hy
   ·exact List.mem_of_mem_take hy
   ·exact List.mem_of_mem_drop hy
  ·refine⟨h.ok.lo,h.ok.hi,?_,λy hy=>h.ok.arg y (List.mem_of_mem_eraseIdx hy)⟩
   show (s.L.eraseIdx j).length<=s.most
   have:=h.ok.len
   rw[List.length_eraseIdx]
   split<;>omega
 have HR1:Hid ((Builtin.append_ #[51,51] 51 #[.slice (some ⟨w.heap.size,0,none⟩) 0 0,.slice (some ⟨q,0,none⟩) j cap]).run Tryz.prog W0=.ok (.slice a1 j cp1) w1):=gG
 have c10:=h0.at'.c1
 have c11:=h1.at'.c1
 have c12:=h2.at'.c1
 have f12:=h2.at'.fz 1
 obtain⟨N,hN⟩:=ai ss.length
 obtain⟨J,hJ⟩:=ai (j+1)
 rw[<-hN] at c10 c11 c12 HE bP hcap ⊢
 rw[<-hJ] at hA bP
 have HR2:Hid ((Builtin.append_ #[51,51] 51 #[.slice a1 j cp1,.slice (some A) (N-J) (cap-J)]).run Tryz.prog w1=.ok (.slice a2 (N-1) cp2) w2):=bP
 have HW0:Hid (W0=w.alloc (.cells #[] 140)):=hW0
 rw[hW0] at c10
 have g1:j<=cap:=by omega
 have g2:J<=cap:=by omega
 have g3:J<=N:=by omega
 have e1:IntKind.i64.wrap ((j:Int)+1)=(J:Int):=by rw[IntKind.wrap_i64];omega
 clear h h0 h1 h2 hb0 hb1 hb2 hE0 gG bP oM hrow2 vQ jh hnew1 hnew2 hown1 hown2 hag el hx hlen h64 hmax hA2 hW0 hN hJ hq hr hj hcap
 go_enter Tryz.func84,Tryz.ntmps84
 go_wp2_with (at_builtin;first|(rw[<-HW0.out];refine wpList_append_run rfl (.tmp 5) (.tmp 11) 51 rfl _ _ _ rfl rfl HR1.out ?_)|refine wpList_append_run rfl (.tmp 13) (.tmp 20) 51 rfl _ _ _ rfl rfl HR2.out ?_)
 go_end0
 exact⟨rfl,HE.out⟩
structure Two (w:World)(vo:Value)(os:List Bl)(vl:Value)(ls:List eU)(W:World):Prop where
 aM:Below w.heap.size w W
 out:Row qH W vo os
 row:Row zM W vl ls
 Iy:∀ k,vo.ownBlock=some k->w.heap.size<=k
 Iz:∀ k,vl.ownBlock=some k->w.heap.size<=k
theorem Two.ne (h:Two w vo os vl ls W){k:Nat}(h1:vo.ownBlock=some k)(h2:vl.ownBlock=some k):False:=by
 obtain⟨c1,e1,_⟩:=h.out.isRow h1
 obtain⟨c2,e2,_⟩:=h.row.isRow h2
 rw[e1] at e2
 have:qH.T=zM.T:=by injection e2 with e3;injection e3
 exact absurd this (by decide)
theorem Two.below (h:Two w vo os vl ls W)(hb:Below W.heap.size W W'):Two w vo os vl ls W':=
 ⟨h.aM.trans (hb.mono h.aM.size),h.out.below hb,h.row.below hb,h.Iy,h.Iz⟩
theorem Two.YA {PX:Value}{os':List Bl}(h:Two w vo os vl ls W)(hr:Row qH W' PX os')(ha:Apart (λk=>vo.ownBlock=some k) W W')(hn:∀ k,PX.ownBlock=some k->vo.ownBlock=some k\/W.heap.size<=k):Two w PX os' vl ls W':=
 ⟨ha.below h.aM  h.Iy   h.aM.size, hr, h.row.apart ha fun k hk e => h.ne e hk, fun k hk => by
   rcases hn k hk with e | e
   · exact h.Iy k e
   · exact Nat.le_trans h.aM.size e, h.Iz⟩
theorem Two.YB {vl':Value}{ls':List eU}(h:Two w vo os vl ls W)(hr:Row zM W' vl' ls')(ha:Apart (λk=>vl.ownBlock=some k) W W')(hn:∀ k,vl'.ownBlock=some k->vl.ownBlock=some k\/W.heap.size<=k):Two w vo os vl' ls' W':=
 ⟨ha.below h.aM  h.Iz   h.aM.size, h.out.apart ha fun k hk e => h.ne hk e, hr, h.Iy  , fun k hk => by
   rcases hn k hk with e | e
   · exact h.Iz k e
   · exact Nat.le_trans h.aM.size e⟩
theorem Two.YC {oa:Option Addr}{on oc:Nat}(h:Two w (.slice oa on oc) os vl ls W)(hl:os.length<=900)(x:eU):
  ∃ a' c' W1,(Builtin.append_ #[26,26] 26 #[.slice oa on oc,.slice (some ⟨W.heap.size,0,none⟩) 1 1]).run Tryz.prog (W.alloc (.cells #[.slice x.2.1 x.1.b.length x.2.2] 24))=.ok (.slice a' (on+1) c') W1/\Two w (.slice a' (on+1) c') (os++[lS x]) vl ls W1:=by
 obtain⟨V,hV⟩:=ai (W.alloc (.cells #[.slice x.2.1 x.1.b.length x.2.2] 24))
 have hb:Below W.heap.size W V:=by rw[hV];exact(Below.refl _ _).alloc (Nat.le_refl _) _
 have hr:V.heap[W.heap.size]?=some (.cells #[.slice x.2.1 x.1.b.length x.2.2] 24 (0,0)):=by rw[hV];exact heap_alloc_new _ _
 rw[<-hV]
 have h1:=h.below hb
 obtain⟨v',W1,hrun,hrow,hap,hnew⟩:=h1.out.append [lS x] (by simp;omega) (some ⟨W.heap.size,0,none⟩) 1 (λ_=>⟨W.heap.size,0,rfl,λt u hu=>by
  rw[show qH.cs [lS x]=[.slice x.2.1 x.1.b.length x.2.2] from rfl] at hu
  rw[cell_of_row _ _ (0+t) _ _ _ hr,Nat.zero_add,<-Array.getElem?_toList];exact hu⟩)
 have h2:=h1.YA hrow hap hnew
 obtain⟨a',c',rfl,-⟩:=hrow.shape
 have el:(os++[lS x]).length=on+1:=by
  obtain⟨_,_,e,_⟩:=h.out.shape
  cases e
  simp
 rw[el] at hrun h2
 exact⟨a',c',W1,hrun,h2⟩
theorem Two.VK {la:Option Addr}{ln lc:Nat}(h:Two w vo os (.slice la ln lc) ls W)(hl:ls.length<=900)(x:eU):
  ∃ a' c' W1,(Builtin.append_ #[51,51] 51 #[.slice la ln lc,.slice (some ⟨W.heap.size,0,none⟩) 1 1]).run Tryz.prog (W.alloc (.cells #[.int .i64 x.1.e,.int .i64 x.1.i,.slice x.2.1 x.1.b.length x.2.2] 140))=.ok (.slice a' (ln+1) c') W1/\Two w vo os (.slice a' (ln+1) c') (ls++[x]) W1:=by
 obtain⟨V,hV⟩:=ai (W.alloc (.cells #[.int .i64 x.1.e,.int .i64 x.1.i,.slice x.2.1 x.1.b.length x.2.2] 140))
 have hb:Below W.heap.size W V:=by rw[hV];exact(Below.refl _ _).alloc (Nat.le_refl _) _
 have hr:V.heap[W.heap.size]?=some (.cells #[.int .i64 x.1.e,.int .i64 x.1.i,.slice x.2.1 x.1.b.length x.2.2] 140 (0,0)):=by rw[hV];exact heap_alloc_new _ _
 rw[<-hV]
 have h1:=h.below hb
 obtain⟨v',W1,hrun,hrow,hap,hnew⟩:=h1.row.append [x] (by simp;omega) (some ⟨W.heap.size,0,none⟩) 1 (λ_=>⟨W.heap.size,0,rfl,λt u hu=>by
  rw[show zM.cs [x]=[.int .i64 x.1.e,.int .i64 x.1.i,.slice x.2.1 x.1.b.length x.2.2] from rfl] at hu
  rw[cell_of_row _ _ (0+t) _ _ _ hr,Nat.zero_add,<-Array.getElem?_toList];exact hu⟩)
 have h2:=h1.YB hrow hap hnew
 obtain⟨a',c',rfl,-⟩:=hrow.shape
 have el:(ls++[x]).length=ln+1:=by
  obtain⟨_,_,e,_⟩:=h.row.shape
  cases e
  simp
 rw[el] at hrun h2
 exact⟨a',c',W1,hrun,h2⟩
theorem Two.done (h:oF w r v s ss){p:eU->Bool}{q:It->Bool}(hpq:∀ x:eU,p x=q x.1)(hT:Two w vo os vl (ss.filter p) W)(hos:∀ y∈os,∃ x∈ss,y=lS x):
  fB w r v { s with L:=s.L.filter q } (W.setCell ⟨r,1,none⟩ vl)/\oN (W.setCell ⟨r,1,none⟩ vl) w.heap.size vo (os.map Prod.fst):=by
 have h2:=h.below hT.aM
 have hag:Apart (λk=>k=r) W (W.setCell ⟨r,1,none⟩ vl):=(Apart.refl (λk=>k=r) W).setCell (b:=r) (.inl rfl) 1 _
 have hr:=h.at'.lt
 have hpl:∀ k,k=r->Plain W k:=λk hk=>hk▸h2.plain (.inl rfl)
 refine⟨⟨vl,ss.filter p,⟨h2.at'.Lx _,hT.row.apart hag λk hk e=>by have:=hT.Iz k hk;omega,?_,λy hy=>(h2.seen y (List.mem_filter.1 hy).1).apart hag hpl,h.ok.filter q⟩,(Apart.of_below (F:=λk=>k=r) hT.aM).trans hag λi hi=>.inl hi,λk hk=>.inr (hT.Iz k hk)⟩,os,hT.out.apart hag λk hk e=>by have:=hT.Iy k hk;omega,λy hy=>?_,rfl,hT.Iy⟩
 ·show _=s.L.filter q
  rw[<-h.its,List.filter_map]
  congr 1
  exact List.filter_congr λx _=>hpq x
 ·obtain⟨x,hx,rfl⟩:=hos y hy
  exact(h2.seen x hx).apart hag hpl
theorem IA (w:World)(r:Nat)(v:Value)(s:Bs)(ss:List eU)(h:oF w r v s ss)(k:Key):
  Calls Tryz.prog 87 #[.pointer (some ⟨r,0,none⟩),.int .i64 k.1,.int .i64 k.2] w λe w'=>∃ vo,e=.returned vo/\fB w r v (jc s k) w'/\oN w' w.heap.size vo (fG s k):=by
 obtain⟨a,cap,rfl,hcap,hmax,-⟩:=h.row.shape
 obtain⟨hlen,h64⟩:=h.len
 have HB:Hid (∀ W,Below w.heap.size w W->oF W r (.slice a ss.length cap) s ss):=λW hb=>h.below hb
 have HH:Hid (oF w r (.slice a ss.length cap) s ss):=h
 obtain⟨N,hN⟩:=ai ss.length
 have HN:Hid (N=ss.length):=hN
 have PW:N<=64:=by omega
 have hcm:cap<=9223372036854775807:=by unfold maxLen at hmax;omega
 obtain⟨k1,k2⟩:=k
 have c1:=h.at'.c1
 rw[<-hN] at c1 hcap HB
 clear h hlen h64 hN hmax
 go_enter Tryz.func87,Tryz.ntmps87
 go_wp2
 clear c1
 go_loopw [7,8,9] (λs7 s8 s9 wr=>∃ t:Nat,s9=.int .i64 (t:Int)/\t<=N/\Two w s7 (((ss.take t).filter λx=>isK (k1,k2) x.1).map lS) s8 ((ss.take t).filter λx => !isK (k1,k2) x.1) wr) (λ_ _ s9 _=>N-(intOf s9).toNat)
 case atStart=>exact⟨0,rfl,Nat.zero_le _,Below.refl _ _,Row.nil _ _,Row.nil _ _,(λk hk=>by cases hk),(λk hk=>by cases hk)⟩
 case round=>
  obtain⟨t,rfl,ht,hT⟩:=hrel
  obtain⟨oa,oc,rfl,-⟩:=hT.out.shape
  obtain⟨la,lc,rfl,-⟩:=hT.row.shape
  have hP:=HB.out wr hT.aM
  have c1:=hP.at'.c1
  by_cases hlt:t<N
  ·obtain⟨x,hx⟩:∃ x,ss[t]?=some x:=⟨ss[t]'(by have:=HN.out;omega),by rw[List.getElem?_eq_getElem]⟩
   obtain⟨-,q,rfl,hcell⟩:=hP.row.get hx
   have x0:=hcell 0 _ rfl
   have x1:=hcell 1 _ rfl
   have x2:=hcell 2 _ rfl
   rw[show zM.n=3 from rfl] at x0 x1 x2
   rw[Nat.add_zero] at x0
   have htk:=bJ ss t x hx
   have g1:(t:Int)<(N:Int):=by omega
   have g2:(0:Int)<=(t:Int):=Int.natCast_nonneg _
   have e1:IntKind.i64.wrap ((t:Int)+1)=((t+1:Nat):Int):=by rw[IntKind.wrap_i64];omega
   have HJ:Hid (t<N):=hlt
   have hl1:(((ss.take t).filter λx=>isK (k1,k2) x.1).map lS).length<=64:=by rw[List.length_map];exact Nat.le_trans (List.length_filter_le _ _) (by rw[List.length_take];omega)
   have hl2:((ss.take t).filter λx => !isK (k1,k2) x.1).length<=64:=Nat.le_trans (List.length_filter_le _ _) (by rw[List.length_take];omega)
   obtain⟨ao,co,Wo,gG,hT1⟩:=hT.YC (by omega) x
   obtain⟨al,cl,Wl,bP,vz⟩:=hT.VK (by omega) x
   obtain⟨on,hon⟩:=ai ((((ss.take t).filter λx=>isK (k1,k2) x.1).map lS).length)
   obtain⟨ln,hln⟩:=ai (((ss.take t).filter λx => !isK (k1,k2) x.1).length)
   rw[<-hon] at gG hT1 vz ⊢
   rw[<-hln] at bP vz hT1 ⊢
   obtain⟨xe,hxe⟩:=ai x.1.e
   obtain⟨xi,hxi⟩:=ai x.1.i
   obtain⟨xl,hxl⟩:=ai x.1.b.length
   obtain⟨xa,hxa⟩:=ai x.2.1
   obtain⟨xc,IB⟩:=ai x.2.2
   rw[<-hxl,<-hxa,<-IB] at gG bP
   rw[<-hxe,<-hxi] at bP
   have x0':wr.cell? ⟨q,t*3,none⟩=some (.int .i64 xe):=by rw[hxe];exact x0
   have x1':wr.cell? ⟨q,t*3+1,none⟩=some (.int .i64 xi):=by rw[hxi];exact x1
   have x2':wr.cell? ⟨q,t*3+2,none⟩=some (.slice xa xl xc):=by rw[hxl,hxa,IB];exact x2
   have HR1:Hid ((Builtin.append_ #[26,26] 26 #[.slice oa on oc,.slice (some ⟨wr.heap.size,0,none⟩) 1 1]).run Tryz.prog (wr.alloc (.cells #[.slice xa xl xc] 24))=.ok (.slice ao (on+1) co) Wo):=gG
   have HR2:Hid ((Builtin.append_ #[51,51] 51 #[.slice la ln lc,.slice (some ⟨wr.heap.size,0,none⟩) 1 1]).run Tryz.prog (wr.alloc (.cells #[.int .i64 xe,.int .i64 xi,.slice xa xl xc] 140))=.ok (.slice al (ln+1) cl) Wl):=bP
   have HT1:Hid (isK (k1,k2) x.1=true->Two w (.slice ao (on+1) co) (((ss.take (t+1)).filter λx=>isK (k1,k2) x.1).map lS) (.slice la ln lc) ((ss.take (t+1)).filter λx => !isK (k1,k2) x.1) Wo):=λhk=>by
    rw[htk,List.filter_append,List.filter_append,List.map_append]
    simpa [hk] using hT1
   have HT2:Hid (isK (k1,k2) x.1=false->Two w (.slice oa on oc) (((ss.take (t+1)).filter λx=>isK (k1,k2) x.1).map lS) (.slice al (ln+1) cl) ((ss.take (t+1)).filter λx => !isK (k1,k2) x.1) Wl):=λhk=>by
    rw[htk,List.filter_append,List.filter_append,List.map_append]
    simpa [hk] using vz
   have K6:Hid ((xe=k1/\xi=k2->isK (k1,k2) x.1=true)/\(¬ (xe=k1/\xi=k2)->isK (k1,k2) x.1=false)):=by
    rw[hxe,hxi]
    refine⟨λh=>qg.2 (zO.2 h),λh=>?_⟩
    cases hb:isK (k1,k2) x.1
    ·rfl
    ·exact absurd (zO.1 (qg.1 hb)) h
   clear hT hP hx hcell x0 x1 x2 htk hl1 hl2 gG bP hT1 vz hon hln hxe hxi hxl hxa IB ht hlt
   by_cases h1:xe=k1
   ·subst h1
    by_cases h2:xi=k2
    ·subst h2
     have HE:Hid (Two w (.slice ao (on+1) co) (((ss.take (t+1)).filter λx=>isK (xe,xi) x.1).map lS) (.slice la ln lc) ((ss.take (t+1)).filter λx => !isK (xe,xi) x.1) Wo):=HT1.out (K6.out.1 ⟨rfl,rfl⟩)
     go_wp2_with (at_builtin;refine wpList_append_run rfl (.tmp 41) (.tmp 50) 26 rfl _ _ _ rfl rfl HR1.out ?_)
     go_roundw
     case rel=>exact⟨t+1,by first|rfl|(congr 1;omega),by have:=HJ.out;omega,HE.out⟩
     case measure=>have:=HJ.out;simp[intOf];omega
    ·have HE:=HT2.out (K6.out.2 (λe=>h2 e.2))
     have HE2:Hid (Two w (.slice oa on oc) (((ss.take (t+1)).filter λx=>isK (xe,k2) x.1).map lS) (.slice al (ln+1) cl) ((ss.take (t+1)).filter λx => !isK (xe,k2) x.1) Wl):=HE
     clear HE
     go_wp2_with (at_builtin;refine wpList_append_run rfl (.tmp 52) (.tmp 60) 51 rfl _ _ _ rfl rfl HR2.out ?_)
     go_roundw
     case rel=>exact⟨t+1,by first|rfl|(congr 1;omega),by have:=HJ.out;omega,HE2.out⟩
     case measure=>have:=HJ.out;simp[intOf];omega
   ·have HE:=HT2.out (K6.out.2 (λe=>h1 e.1))
    have HE2:Hid (Two w (.slice oa on oc) (((ss.take (t+1)).filter λx=>isK (k1,k2) x.1).map lS) (.slice al (ln+1) cl) ((ss.take (t+1)).filter λx => !isK (k1,k2) x.1) Wl):=HE
    clear HE
    go_wp2_with (at_builtin;refine wpList_append_run rfl (.tmp 52) (.tmp 60) 51 rfl _ _ _ rfl rfl HR2.out ?_)
    go_roundw
    case rel=>exact⟨t+1,by first|rfl|(congr 1;omega),by have:=HJ.out;omega,HE2.out⟩
    case measure=>have:=HJ.out;simp[intOf];omega
  ·have hall:ss.take t=ss:=List.take_of_length_le (by have:=HN.out;omega)
   rw[hall] at hT ⊢
   have f1:=hP.at'.fz 1
   have hd:=Two.done (q:=λx => !isK (k1,k2) x) HH.out (λx=>rfl) hT (λy hy=>by
    obtain⟨x,hx,rfl⟩:=List.mem_map.1 hy
    exact⟨x,(List.mem_filter.1 hx).1,rfl⟩)
   have eL:(((ss.filter λx=>isK (k1,k2) x.1).map lS).map Prod.fst)=fG s (k1,k2):=by
    rw[fG,<-HH.out.its,List.filter_map,List.map_map,List.map_map]
    rfl
   rw[eL] at hd
   obtain⟨on,hon⟩:=ai (((ss.filter λx=>isK (k1,k2) x.1).map lS).length)
   obtain⟨ln,hln⟩:=ai ((ss.filter λx => !isK (k1,k2) x.1).length)
   rw[<-hon,<-hln] at hd ⊢
   have HD:Hid (fB w r (.slice a ss.length cap) (jc s (k1,k2)) (wr.setCell ⟨r,1,none⟩ (.slice la ln lc))/\oN (wr.setCell ⟨r,1,none⟩ (.slice la ln lc)) w.heap.size (.slice oa on oc) (fG s (k1,k2))):=hd
   have g1:¬ (t:Int)<(N:Int):=by omega
   clear hT hP hall hd eL hon hln ht hlt
   go_wp2
   go_ret
   exact⟨_,rfl,HD.out⟩
end Go.Proofs.YtmffplhaclnehaaGreatDoor
