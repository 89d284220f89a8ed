/-
  Appending to a slice of the call's own; the walk of ShaCuts.

  The contracts of the document's Load, Long, Put and PutLong.

  The contracts of the document's turn, mix and Table.
  The contract of the document's Block.
-/
import Derived.Test.YthogohkieiogiaaGreatDoorShaE
import Derived.Laws.AppendOwnNone
import Derived.Deep.RegionHeld3
import Derived.BigRegion
namespace Go.Proofs.YthogohkieiogiaaGreatDoor
set_option maxRecDepth 20000
set_option maxHeartbeats 4000000
open Go.ChangeShapes Go.WideShapes Go.ChangeAt Go.RowKit
theorem be_take_lt (l:List UInt8)(k T M:Nat)(hk:k<=T)(hM:256^T=M):be (l.take k)<M:=by
 have h1:=be_lt (l.take k)
 have h2:(l.take k).length<=k:=List.length_take_le _ _
 have h3:256^(l.take k).length<=256^T:=Nat.pow_le_pow_right (by omega) (by omega)
 omega
theorem refload_yes (w:World)(a:Option Addr)(cap S:Nat)(bs:List UInt8)(p:Nat)(h:Sees w a cap bs)(hS0:0<S)(hS:S<=8)(hp:p+S<=bs.length):
  Calls Tryz.prog 196 #[.slice a bs.length cap,.int .i64 p,.int .i64 S] w λe w'=>e=.returned (.tuple #[.int .u64 (be ((bs.drop p).take S):Nat),.int .i64 0])/\w'=w:=by
 have hfit:=h.fits
 have hroom:=h.room
 unfold maxLen at hroom
 obtain⟨b,off,rfl,hcell⟩:=h.at' (by rintro rfl;simp at hp;omega)
 have Hc:Hid (∀ i x,bs[i]?=some x->w.cell? ⟨b,off+i,none⟩=some (.int .u8 x.toNat)):=hcell
 have d1:decide ((p:Int)<0)=false:=by simp
 have d2:decide ((bs.length:Int)-S<(p:Int))=false:=by simp;omega
 clear h hcell
 go_enter Tryz.func196,Tryz.ntmps196
 go_wp2
 go_loop [8,9] (λx i=>∃ k:Nat,k<=S/\i=.int .i64 k/\x=.int .u64 (be ((bs.drop p).take k):Nat)) (λ_ i=>S-(intOf i).toNat)
 case atStart=>exact⟨0,by omega,rfl,rfl⟩
 case round=>
  obtain⟨k,hk,rfl,rfl⟩:=hrel
  by_cases hlt:k<S
  ·obtain⟨c,hc⟩:∃ c,bs[p+k]?=some c:=⟨bs[p+k]'(by omega),by simp[show p+k<bs.length by omega]⟩
   have hcl:w.cell? ⟨b,off+(p+k),none⟩=some (.int .u8 c.toNat):=Hc.out _ c hc
   have hdk:(bs.drop p)[k]?=some c:=by rw[List.getElem?_drop];exact hc
   obtain⟨x,hx⟩:∃ x,x=be ((bs.drop p).take k):=⟨_,rfl⟩
   have hxl:x<72057594037927936:=by rw[hx];exact be_take_lt _ k 7 _ (by omega) (by decide)
   have e1:=or_u64 x c hxl
   have HS:Hid (be ((bs.drop p).take (k+1))=x*256+c.toNat):=by
    rw[take_snoc _ k c hdk,be_snoc,hx];exact rfl
   have hcb:=c.toNat_lt
   rw[<-hx]
   clear hc hdk hx
   go_wp2
   go_round
   case rel=>exact⟨k+1,by omega,by go_num,by rw[HS.out];go_num⟩
   case measure=>simp[intOf];omega
  ·obtain rfl:k=S:=by omega
   go_wp2
   go_ret2
   exact⟨rfl,rfl⟩
theorem RefLoad_yes (w:World)(a:Option Addr)(cap:Nat)(bs:List UInt8)(p:Nat)(h:Sees w a cap bs)(hp:p+4<=bs.length):
  Calls Tryz.prog 186 #[.slice a bs.length cap,.int .i64 p] w λe w'=>e=.returned (.tuple #[.int .u32 (be ((bs.drop p).take 4):Nat),.int .i64 0])/\w'=w:=by
 have hb:be ((bs.drop p).take 4)<4294967296:=be_take_lt _ 4 4 _ (by omega) (by decide)
 go_enter Tryz.func186,Tryz.ntmps186
 go_wp2_with fail
 refine(refload_yes w a cap 4 bs p h (by omega) (by omega) hp).mono ?_
 rintro e w' ⟨rfl,rfl⟩
 go_wp2
 go_ret2
 exact⟨rfl,rfl⟩
theorem cells_w4' (x:Nat):(w4 x).map cellOf=[.int .u8 (IntKind.u8.wrap ((x:Int)/16777216)),.int .u8 (IntKind.u8.wrap ((x:Int)/65536)),.int .u8 (IntKind.u8.wrap ((x:Int)/256)),.int .u8 (IntKind.u8.wrap (x:Int))]:=by
 simp only[w4,List.map_cons,List.map_nil,cellOf,UInt8.toNat_ofNat',IntKind.wrap_u8']
 simp
theorem refput_own (w:World)(a c:Option Addr)(ca cc:Nat)(bs:List UInt8)(l:List Nat)(ha:Sees w a ca bs)(hc:Words w c cc l)(hr:bs.length<=140737488353000)(hl:l.length<=100):
  Calls Tryz.prog 89 #[.slice a bs.length ca,.slice c l.length cc] w λe w'=>∃ d cd r,Hid (r=bs++w4s l)/\e=.returned (.slice d r.length cd)/\Sees w' d cd r/\Below w.heap.size w w'/\w'.ownsRow w.heap.size 5 1 (.slice d r.length cd) r.length (r.map cellOf):=by
 obtain⟨i5,hi,hz0,hz1,hz2⟩:=info_parts Tryz.info5
 have hown0:(w.alloc (.cells #[] 5)).ownsRow w.heap.size 5 1 (.slice (some ⟨w.heap.size,0,none⟩) 0 0) 0 []:=World.ownsRow_made w #[] 0 (Nat.le_refl _) (by simp) (by simp)
 have hb0:Below w.heap.size w (w.alloc (.cells #[] 5)):=(Below.refl _ _).alloc (Nat.le_refl _) _
 have first:∃ v:Value,∃ w1:World,w1.ownsRow w.heap.size 5 1 v bs.length (bs.map cellOf)/\Below w.heap.size w w1 /\
   (Builtin.append_ #[22,22] 22 #[.slice (some ⟨w.heap.size,0,none⟩) 0 0,.slice a bs.length ca]).run Tryz.prog (w.alloc (.cells #[] 5))=.ok v w1:=by
  cases a with
  | none =>
    have h0 := ha.bare rfl
    have h1 := ha.fits
    have : bs = [] := List.eq_nil_of_length_eq_zero (by omega)
    subst this; subst h0
    exact ⟨_, _, hown0, hb0, run_append_owned_none (P := Tryz.prog) (w.alloc (.cells #[] 5)) w.heap.size 22 22 5 i5 1 Tryz.underlying22 hi _ 0 [] hown0⟩
  | some ad =>
    obtain ⟨v, w1, hrun, ho, hg, _⟩ := run_append_own (P := Tryz.prog) (w.alloc (.cells #[] 5)) w.heap.size 22 22 5 i5 (.int .u8 0) 1 1 Tryz.underlying22 hi hz0 hz1 hz2 rfl (by omega) _ 0 [] hown0 ad bs.length ca (bs.map cellOf) (by simp) ((ha.below hb0).news ad rfl) (bytes_oneCell bs) (by unfold maxLen; omega) (by omega) (by simp)
    refine ⟨v, w1, by simpa using ho, hb0.grown hg (by simp) (by intro k h; cases h; exact Nat.le_refl _), hrun⟩
 obtain⟨v0,w1,ho1,hb1,hrun⟩:=first
 have HR:Hid ((Builtin.append_ #[22,22] 22 #[.slice (some ⟨w.heap.size,0,none⟩) 0 0,.slice a bs.length ca]).run Tryz.prog (w.alloc (.cells #[] 5))=.ok v0 w1):=hrun
 clear hrun
 go_enter Tryz.func89,Tryz.ntmps89
 go_wp2_with (at_builtin;refine wpList_append_run rfl _ _ 22 rfl _ _ _ rfl rfl HR.out ?_)
 clear hown0 HR hb0
 go_loopw [5,6] (λv i wr=>∃ k:Nat,k<=l.length/\i=.int .i64 k/\wr.ownsRow w.heap.size 5 1 v (bs.length+4*k) ((bs++w4s (l.take k)).map cellOf)/\Below w.heap.size w wr)
  (λ_ i _=>l.length-(intOf i).toNat)
 case atStart=>exact⟨0,Nat.zero_le _,rfl,by simpa [w4s] using ho1,hb1⟩
 case round=>
  obtain⟨k,hk,rfl,ho,hbl⟩:=hrel
  clear ho1 hb1
  by_cases hlt:k<l.length
  ·obtain⟨x,hx⟩:∃ x,l[k]?=some x:=⟨l[k],by simp[hlt]⟩
   obtain⟨b1,o1,rfl,hc1⟩:=(hc.below hbl).get hx
   have hxs:=hc.small x (List.mem_of_getElem? hx)
   have l1:b1<w.heap.size:=by obtain⟨b,o,h,hcc⟩:=hc.get hx;cases h;exact World.block_lt_of_cell? w _ hcc
   have n1:u5.ownBlock≠some b1:=λh=>by have:=(ho.lt _ h).1;omega
   have HS:Hid ((bs++w4s (l.take (k+1))).map cellOf=(bs++w4s (l.take k)).map cellOf++(w4 x).map cellOf):=by
    rw[take_snoc l k x hx,w4s_snoc,<-List.append_assoc,List.map_append]
    exact rfl
   have hsz:=hbl.size
   have g0:(0:Int)<=(k:Int):=Int.natCast_nonneg _
   have g1:(k:Int)<(l.length:Int):=by omega
   have hcw:Hid ((w4 x).map cellOf=[.int .u8 (IntKind.u8.wrap ((x:Int)/16777216)),.int .u8 (IntKind.u8.wrap ((x:Int)/65536)),.int .u8 (IntKind.u8.wrap ((x:Int)/256)),.int .u8 (IntKind.u8.wrap (x:Int))]):=cells_w4' x
   clear hx
   go_wp2
   go_region_held3 (λw'=>w'.cell? ⟨b1,o1+k,none⟩=some (.int .u32 (x:Int)))
    (first
      | go_keep
      | (rw [hgrow.cell_far _ (by simp; omega) (Ne.symm n1)]; assumption))
    ((refine step_append_lies _ (by rfl) _ _ _ (by rfl) w.heap.size 5 i5 (.int .u8 0) 1 1 Tryz.underlying22 hi hz0 hz1 hz2 rfl (by omega) u5 (bs.length + 4 * k) _ (by rfl) ((ho.alloc _).drew)
        ⟨wr.heap.size, 0, none⟩ 4 4 [.int .u8 (IntKind.u8.wrap ((x : Int) / 16777216)), .int .u8 (IntKind.u8.wrap ((x : Int) / 65536)), .int .u8 (IntKind.u8.wrap ((x : Int) / 256)), .int .u8 (IntKind.u8.wrap (x : Int))] (by rfl) (by rfl) (World.news_of_block (cs := #[.int .u8 (IntKind.u8.wrap ((x : Int) / 16777216)), .int .u8 (IntKind.u8.wrap ((x : Int) / 65536)), .int .u8 (IntKind.u8.wrap ((x : Int) / 256)), .int .u8 (IntKind.u8.wrap (x : Int))]) (t := 5) (fr := (0, 0)) (heap_alloc_new wr _)) (by simp [Value.oneCell'])
        (by omega) (by unfold maxLen; omega) (by omega) (by simp; omega) (wr.heap.size + 1) (by simp) ?_; intro gg cap w3 hown1 hgrow hat hlt'))
   have hbl':Below w.heap.size w w3:=((hbl.alloc hsz _).drew).grown hgrow (by simp;omega) (λq h=>(ho.lt _ h).1)
   go_wp2
   go_roundw
   case rel=>
    refine⟨k+1,by omega,by go_num,?_,hbl'⟩
    rw[HS.out,hcw.out,Nat.mul_add,<-Nat.add_assoc]
    exact hown1
   case measure=>simp[intOf];omega
  ·obtain rfl:k=l.length:=by omega
   rw[List.take_length] at ho
   obtain⟨r,hr'⟩:∃ r,r=bs++w4s l:=⟨_,rfl⟩
   rw[<-hr'] at ho
   have HR:Hid (r=bs++w4s l):=hr'
   clear hr'
   obtain⟨d,cd,hv,hs⟩:=Sees.of_own ho
   have hn:bs.length+4*l.length=r.length:=by have:=ho.1;simp at this;omega
   rw[hv,hn] at ho
   rw[hv]
   clear hn
   go_wp2
   go_ret
   exact⟨d,cd,r,HR,rfl,hs,hbl,ho⟩
theorem refput_any (w:World)(a c:Option Addr)(ca cc:Nat)(bs:List UInt8)(l:List Nat)(ha:Sees w a ca bs)(hc:Words w c cc l)(hr:bs.length<=140737488353000)(hl:l.length<=100):
  Calls Tryz.prog 89 #[.slice a bs.length ca,.slice c l.length cc] w λe w'=>∃ d cd r,Hid (r=bs++w4s l)/\e=.returned (.slice d r.length cd)/\Sees w' d cd r/\Below w.heap.size w w':=
 (refput_own w a c ca cc bs l ha hc hr hl).mono λ_ _ ⟨d,cd,r,h1,h2,h3,h4,_⟩=>⟨d,cd,r,h1,h2,h3,h4⟩
theorem refputlong_any (w:World)(a:Option Addr)(ca:Nat)(bs:List UInt8)(n:Nat)(ha:Sees w a ca bs)(hr:bs.length<=140737488353000)(hn:n<18446744073709551616):
  Calls Tryz.prog 56 #[.slice a bs.length ca,.int .u64 n] w λe w'=>∃ d cd r,Hid (r=bs++w4s [n/4294967296,n%4294967296])/\e=.returned (.slice d r.length cd)/\Sees w' d cd r/\Below w.heap.size w w':=by
 have hW:=Words.lit w 62 [n/4294967296,n%4294967296] (by simp) (by simp;omega)
 have hb:Below w.heap.size w (w.alloc (.cells #[.int .u32 ((n/4294967296:Nat):Int),.int .u32 ((n%4294967296:Nat):Int)] 62)):=(Below.refl _ _).alloc (Nat.le_refl _) _
 have ha1:=ha.below hb
 have hn2:n/4294967296<4294967296:=by omega
 go_enter Tryz.func56,Tryz.ntmps56
 go_wp2_with fail
 refine(refput_any _ a _ ca 2 bs [n/4294967296,n%4294967296] ha1 hW hr (by simp)).mono ?_
 rintro e w' ⟨d,cd,r,HR,rfl,hs,hbl⟩
 go_wp2
 go_ret
 exact⟨d,cd,r,HR,rfl,hs,hb.trans (hbl.mono (by simp))⟩
theorem rturn_any (x k:Nat)(hx:x<4294967296)(hk:k<32)(w:World):
  Calls Tryz.prog 197 #[.int .u32 x,.int .i64 k] w λe w'=>e=.returned (.int .u32 (rotr x k:Nat))/\∃ m,w'=w.drewN m:=by
 have h1:IntKind.i64.wrap ((32:Int)-(k:Int))=((32-k:Nat):Int):=by rw[IntKind.wrap_i64];omega
 have h2:=rot_int x k hx
 obtain⟨y,hy⟩:∃ y,y=rotr x k:=⟨_,rfl⟩
 rw[<-hy] at h2 ⊢
 clear hy
 have g0:(0:Int)<=(k:Int):=Int.natCast_nonneg _
 have g1:(k:Int)<=32:=by omega
 go_enter Tryz.func197,Tryz.ntmps197
 go_wp2
 go_quiet (fail)
 go_wp2
 go_ret
 exact⟨rfl,_,rfl⟩
theorem rmix_turn (x i j k:Nat)(hx:x<4294967296)(hi:i<32)(hj:j<32)(hk:k<32)(w:World):
  Calls Tryz.prog 187 #[.int .u32 x,.int .i64 i,.int .i64 j,.int .i64 k] w λe w'=>e=.returned (.int .u32 (rot3 x i j k:Nat))/\∃ m,w'=w.drewN m:=by
 obtain⟨y,hy⟩:∃ y,y=rotr x i^^^rotr x j:=⟨_,rfl⟩
 obtain⟨z,hz⟩:∃ z,z=rot3 x i j k:=⟨_,rfl⟩
 have e1:bits .xor .u32 (rotr x i:Int) (rotr x j:Int)=(y:Int):=by rw[hy];exact bx32 _ _ (rotr_lt x i hx hi) (rotr_lt x j hx hj)
 have e2:bits .xor .u32 (y:Int) (rotr x k:Int)=(z:Int):=by rw[hy,hz];exact bx32 _ _ (xor_lt32 (rotr_lt x i hx hi) (rotr_lt x j hx hj)) (rotr_lt x k hx hk)
 have HZ:Hid (z=rot3 x i j k):=hz
 have hd:decide ((k:Int)<0)=false:=by simp
 clear hy hz
 go_enter Tryz.func187,Tryz.ntmps187
 go_wp2_with fail
 refine(rturn_any x i hx hi _).mono ?_
 rintro e w1 ⟨rfl,m1,rfl⟩
 go_wp2_with fail
 refine(rturn_any x j hx hj _).mono ?_
 rintro e w1 ⟨rfl,m2,rfl⟩
 go_wp2_with fail
 refine(rturn_any x k hx hk _).mono ?_
 rintro e w1 ⟨rfl,m3,rfl⟩
 go_wp2
 go_ret
 exact⟨by rw[HZ.out];rfl,_,rfl⟩
theorem rmix_shift (x i j k:Nat)(c:Int)(hx:x<4294967296)(hi:i<32)(hj:j<32)(hc:c = -(k:Int))(hk0:0<k)(hk:k<32)(w:World):
  Calls Tryz.prog 187 #[.int .u32 x,.int .i64 i,.int .i64 j,.int .i64 c] w λe w'=>e=.returned (.int .u32 ((rotr x i^^^rotr x j^^^(x>>>k):Nat):Int))/\∃ m,w'=w.drewN m:=by
 obtain⟨y,hy⟩:∃ y,y=rotr x i^^^rotr x j:=⟨_,rfl⟩
 obtain⟨z,hz⟩:∃ z,z=rotr x i^^^rotr x j^^^(x>>>k):=⟨_,rfl⟩
 have e1:bits .xor .u32 (rotr x i:Int) (rotr x j:Int)=(y:Int):=by rw[hy];exact bx32 _ _ (rotr_lt x i hx hi) (rotr_lt x j hx hj)
 have h1:(x:Int)/2^k=((x>>>k:Nat):Int):=by rw[Nat.shiftRight_eq_div_pow];simp
 have e2:bits .xor .u32 (y:Int) ((x:Int)/2^k)=(z:Int):=by rw[hy,hz,h1];exact bx32 _ _ (xor_lt32 (rotr_lt x i hx hi) (rotr_lt x j hx hj)) (shr_lt32 hx)
 rw[<-hz]
 have hneg:IntKind.i64.wrap (-c)=(k:Int):=by rw[IntKind.wrap_i64];omega
 have hlt:c<0:=by omega
 have hnk : -c=(k:Int):=by omega
 have hb : -9223372036854775808<c:=by omega
 clear hy hz h1 hc
 go_enter Tryz.func187,Tryz.ntmps187
 go_wp2_with fail
 refine(rturn_any x i hx hi _).mono ?_
 rintro e w1 ⟨rfl,m1,rfl⟩
 go_wp2_with fail
 refine(rturn_any x j hx hj _).mono ?_
 rintro e w1 ⟨rfl,m2,rfl⟩
 go_wp2
 go_ret
 exact⟨rfl,_,rfl⟩
theorem table_any (w:World):Calls Tryz.prog 185 #[] w λe w'=>e=.returned (.agg (kTab.map wcell).toArray)/\Below w.heap.size w w':=by
 obtain⟨C,hC⟩:∃ C,C=(kTab.map wcell).toArray:=⟨_,rfl⟩
 have hst:=storeAt_row (P:=Tryz.prog) (w.alloc (.cells ((List.replicate 64 0).map wcell).toArray 266)) w.heap.size 266 266 _ C (heap_alloc_new w _) (by rw[hC];kernel_rfl) (by rw[hC];rfl) (by rw[hC];exact words_one _)
 have hres:((w.alloc (.cells ((List.replicate 64 0).map wcell).toArray 266)).setRow w.heap.size C).heap[w.heap.size]?=some (.cells C 266 (0,0)):=setRow_heap _ _ _ C 266 _ (heap_alloc_new w _)
 have hbel:Below w.heap.size w ((w.alloc (.cells ((List.replicate 64 0).map wcell).toArray 266)).setRow w.heap.size C):=below_setRow ((Below.refl _ _).alloc (Nat.le_refl _) _) (Nat.le_refl _) C
 have HST:Hid ((Instr.storeAt 266 (.pointer (some ⟨w.heap.size,0,none⟩)) (.agg (kTab.map wcell).toArray)).run Tryz.prog (w.alloc (.cells ((List.replicate 64 0).map wcell).toArray 266))=.ok () ((w.alloc (.cells ((List.replicate 64 0).map wcell).toArray 266)).setRow w.heap.size C)):=by rw[<-hC];exact hst
 have HC:Hid (C=(kTab.map wcell).toArray):=hC
 clear hst hC
 go_enter Tryz.func185,Tryz.ntmps185
 go_wp2_with (refine wpList_store_run rfl 266 _ _ rfl _ _ rfl rfl HST.out ?_)
 (try simp only[Exit.inBlock,Exit.then])
 refine bodyPost_ret (results_cell_row rfl _ _ w.heap.size 266 C (0,0) _ rfl hres Tryz.underlying266 rfl (by rw[HC.out];kernel_rfl)) rfl ?_
 exact⟨by rw[HC.out],hbel⟩
structure Rb (w wr:World)(G:Nat)(cs:List Nat):Prop where
 low:w.heap.size<=G
 kt:wr.heap[G]?=some (.cells (kTab.map wcell).toArray 266 (0,0))
 row:wr.heap[G+1]?=some (.cells (cs.map wcell).toArray 266 (0,0))
 bel:Below w.heap.size w wr
theorem Rb.store {w wr:World}{G:Nat}{cs:List Nat}(h:Rb w wr G cs)(k x:Nat):Rb w (wr.setCell ⟨G+1,k,none⟩ (.int .u32 (x:Int))) G (cs.set k x):=
 ⟨h.low,by rw[heap_setCell_other _ _ _ _ (by simp)];exact h.kt,setCell_words h.row k x,h.bel.setCell (p:=⟨G+1,k,none⟩) (by have:=h.low;show _<=G+1;omega) _⟩
theorem Rb.drewN {w wr:World}{G:Nat}{cs:List Nat}(h:Rb w wr G cs)(n:Nat):Rb w (wr.drewN n) G cs:=⟨h.low,h.kt,h.row,below_drewN h.bel n⟩
theorem Rb.on {w wr w2:World}{G:Nat}{cs:List Nat}(h:Rb w wr G cs)(hb:Below wr.heap.size wr w2):Rb w w2 G cs:=by
 have h1:G+1<wr.heap.size:=(Array.getElem?_eq_some_iff.1 h.row).1
 exact⟨h.low,by rw[hb.block _ (by omega)];exact h.kt,by rw[hb.block _ h1];exact h.row,h.bel.trans (hb.mono h.bel.size)⟩
theorem Tryz.info62:(Tryz.prog.info? 62).map (λi=>(i.zero,i.size,i.bytes))=some (some (.int .u32 0),1,4):=by kernel_rfl
theorem words_oneCell (l:List Nat):∀ u∈l.map wcell,u.oneCell'=true:=by intro u hu;obtain⟨x,_,rfl⟩:=List.mem_map.1 hu;rfl
theorem Words.news {w:World}{a:Option Addr}{cap:Nat}{l:List Nat}(h:Words w a cap l):∀ ad,a=some ad->∀ j u,(l.map wcell)[j]?=some u->w.cell? (ad.add j)=some u:=by
 intro ad had j u hu
 rw[List.getElem?_map] at hu
 obtain⟨x,hx,rfl⟩:=Option.map_eq_some_iff.1 hu
 obtain⟨b,off,ha,hc⟩:=h.get hx
 rw[had] at ha
 obtain rfl:=Option.some.inj ha
 rw[Addr.add_lit,hc];rfl
theorem clone_words (w:World)(ad:Addr)(ca:Nat)(l:List Nat)(ha:Words w (some ad) ca l)(h0:0<l.length)(hl:l.length<=100):
  ∃ g cap w', (Builtin.append_ #[157, 157] 157 #[.slice (some ⟨w.heap.size, 0, none⟩) 0 0, .slice (some ad) l.length ca]).run Tryz.prog (w.alloc (.cells #[] 62)) = .ok (.slice (some ⟨g, 0, none⟩) l.length cap) w' ∧
    Below w.heap.size w w' ∧ w.heap.size ≤ g ∧ l.length ≤ cap ∧ cap ≤ maxLen ∧ ∀ k x : Nat, l[k]? = some x → w'.cell? ⟨g, k, none⟩ = some (.int .u32 (x : Int)) := by
 obtain⟨i38,hi,hz0,hz1,hz2⟩:=info_parts Tryz.info62
 have hown0:(w.alloc (.cells #[] 62)).ownsRow w.heap.size 62 1 (.slice (some ⟨w.heap.size,0,none⟩) 0 0) 0 []:=World.ownsRow_made w #[] 0 (Nat.le_refl _) (by simp) (by simp)
 have hb0:Below w.heap.size w (w.alloc (.cells #[] 62)):=(Below.refl _ _).alloc (Nat.le_refl _) _
 obtain⟨v,w',hrun,ho,hg,_⟩:=run_append_own (P:=Tryz.prog) (w.alloc (.cells #[] 62)) w.heap.size 157 157 62 i38 (.int .u32 0) 1 4 Tryz.underlying157 hi hz0 hz1 hz2 rfl (by omega) _ 0 [] hown0 ad l.length ca (l.map wcell) (by simp) ((ha.below hb0).news ad rfl) (words_oneCell l) (by unfold maxLen;omega) (by omega) (by simp)
 rw[Nat.zero_add,List.nil_append] at ho
 rcases ho.2 with ⟨_,hz⟩|⟨g,cap,cur,rfl,hlow,hgg,hnc,hcm,_,_⟩
 ·omega
 ·refine⟨g,cap,w',by simpa using hrun,hb0.grown hg (by simp) (by intro k h;cases h;exact Nat.le_refl _),hlow,hnc,hcm,λk x hx=>?_⟩
  have:=ho.cells (g:=g) rfl k (wcell x) (by simp[hx])
  rw[Addr.add_lit,Nat.zero_add] at this
  exact this
theorem Words.of_row' {w:World}{g:Nat}{l:List Nat}{t:TypeId}{fr:Nat×Nat}(h:w.heap[g]?=some (.cells (l.map wcell).toArray t fr))(hl:l.length<=100)(hs:∀ x∈l,x<4294967296):Words w (some ⟨g,0,none⟩) l.length l:=
 ⟨Nat.le_refl _,by unfold maxLen;omega,hs,λ_=>⟨g,0,rfl,λi x hx=>by rw[Nat.zero_add];exact cell_words h hx⟩⟩
theorem Rb.size {w wr:World}{G:Nat}{cs:List Nat}(h:Rb w wr G cs):G+1<wr.heap.size:=(Array.getElem?_eq_some_iff.1 h.row).1
theorem rblock_yes (w:World)(a:Option Addr)(ca:Nat)(s:S8)(hs:s.small)(ha:Words w a ca s.list)(b:Option Addr)(cb:Nat)(bs:List UInt8)(hb:Sees w b cb bs)(hl:bs.length=64):
  Calls Tryz.prog 166 #[.slice a 8 ca,.slice b 64 cb] w λe w'=>∃ d cd,e=.returned (.tuple #[.slice d 8 cd,.int .i64 0])/\Words w' d cd (mixS s bs).list/\Below w.heap.size w w':=by
 have HL:Hid (bs.length=64):=hl
 have hwl:Hid (∀ t,(wl bs t).length=t):=wl_length bs
 have HS:Hid s.small:=hs
 have HA:Hid (Words w a ca s.list):=ha
 have HB:Hid (Sees w b cb bs):=hb
 clear hl hs ha hb
 have htab:=table_any w
 go_enter Tryz.func166,Tryz.ntmps166
 go_wp2_with fail
 refine htab.mono ?_
 rintro e w1 ⟨rfl,hb1⟩
 obtain⟨C,hC⟩:∃ C,C=(kTab.map wcell).toArray:=⟨_,rfl⟩
 rw[<-hC]
 have hst:=storeAt_row (P:=Tryz.prog) (w1.alloc (.cells ((List.replicate 64 0).map wcell).toArray 266)) w1.heap.size 266 266 _ C (heap_alloc_new w1 _) (by rw[hC];kernel_rfl) (by rw[hC];rfl) (by rw[hC];exact words_one _)
 obtain⟨w2,hw2⟩:∃ w2,w2=(w1.alloc (.cells ((List.replicate 64 0).map wcell).toArray 266)).setRow w1.heap.size C:=⟨_,rfl⟩
 have hrow2:w2.heap[w1.heap.size]?=some (.cells C 266 (0,0)):=by rw[hw2];exact setRow_heap _ _ _ C 266 _ (heap_alloc_new w1 _)
 have hsz2:w2.heap.size=w1.heap.size+1:=by rw[hw2];simp
 have hbel2:Below w.heap.size w w2:=by rw[hw2];exact below_setRow (hb1.alloc hb1.size _) hb1.size C
 rw[<-hw2] at hst
 have HST:Hid ((Instr.storeAt 266 (.pointer (some ⟨w1.heap.size,0,none⟩)) (.agg C)).run Tryz.prog (w1.alloc (.cells ((List.replicate 64 0).map wcell).toArray 266))=.ok () w2):=hst
 have h0:Rb w (w2.alloc (.cells ((List.replicate 64 0).map wcell).toArray 266)) w1.heap.size (wl bs 0++List.replicate (64-0) 0):=
  ⟨hb1.size,by rw[Go.heap_alloc_old w2 _ (by omega:w1.heap.size<w2.heap.size),hrow2,hC],by rw[<-hsz2];exact heap_alloc_new w2 _,hbel2.alloc hbel2.size _⟩
 obtain⟨G,hG⟩:∃ G,G=w1.heap.size:=⟨_,rfl⟩
 have HSZ:Hid (w2.heap.size=w1.heap.size+1):=hsz2
 clear htab hst hw2 hrow2 hbel2 hC
 go_wp2_with (refine wpList_store_run rfl 266 _ _ rfl _ _ rfl rfl HST.out ?_)
 rw[<-hG] at h0 ⊢
 go_loopw [8] (λi wr=>∃ t:Nat,t<=16/\i=.int .i64 t/\Rb w wr G (wl bs t++List.replicate (64-t) 0)) (λi _=>16-(intOf i).toNat)
 case atStart=>exact⟨0,by omega,rfl,h0⟩
 case round=>
  obtain⟨t,ht,rfl,hr1⟩:=hrel
  clear h0 HST hG HSZ hsz2 hb1
  by_cases hlt:t<16
  ·have hc:wr.cell? ⟨G+1,t,none⟩=some (.int .u32 ((0:Nat):Int)):=cell_words hr1.row (by
    rw[List.getElem?_append_right (by rw[hwl.out];exact Nat.le_refl _),hwl.out,Nat.sub_self,List.getElem?_replicate,if_pos (by omega)])
   have hf:wr.frozen? ⟨G+1,t,none⟩=false:=frozen_of_row wr _ t _ _ hr1.row
   have hst:=hr1.store t (nextW bs (wl bs t) t)
   rw[set_stepW _ _ _ _ (hwl.out t) (by omega)] at hst
   have hbb:=HB.out.below hr1.bel
   have HS1:Hid (Rb w (wr.setCell ⟨G+1,t,none⟩ (.int .u32 ((nextW bs (wl bs t) t:Nat):Int))) G (wl bs (t+1)++List.replicate (64-(t+1)) 0)):=hst
   clear hst hr1
   have hx:be ((bs.drop (4*t)).take 4)=nextW bs (wl bs t) t:=by simp[nextW,hlt]
   obtain⟨x,hxx⟩:∃ x,x=nextW bs (wl bs t) t:=⟨_,rfl⟩
   rw[<-hxx] at HS1 hx
   clear hxx
   have hld:=RefLoad_yes wr b cb bs (4*t) hbb (by rw[HL.out];omega)
   rw[HL.out,hx] at hld
   clear hbb hx
   go_wp2_with fail
   refine hld.mono ?_
   rintro e w' ⟨rfl,rfl⟩
   clear hld
   go_wp2
   go_roundw
   case rel=>exact⟨t+1,by omega,by go_num,HS1.out⟩
   case measure=>simp[intOf];omega
  ·obtain rfl:t=16:=by omega
   rw[show ((16:Nat):Int)=16 from rfl]
   go_wp2
   go_loopw [11] (λi wr=>∃ m:Nat,m<=48/\i=.int .i64 ((m+16:Nat):Int)/\Rb w wr G (wl bs (m+16)++List.replicate (64-(m+16)) 0)) (λi _=>64-(intOf i).toNat)
   case atStart=>exact⟨0,by omega,rfl,hr1⟩
   case round=>
    obtain⟨m,hm,rfl,hr2⟩:=hrel
    clear hr1
    by_cases hlt2:m<48
    ·obtain⟨y,hy⟩:∃ y,y=nextW bs (wl bs (m+16)) (m+16):=⟨_,rfl⟩
     obtain⟨x15,h15⟩:∃ x,x=(wl bs (m+16)).getD (m+1) 0:=⟨_,rfl⟩
     obtain⟨x2,h2⟩:∃ x,x=(wl bs (m+16)).getD (m+14) 0:=⟨_,rfl⟩
     obtain⟨x7,h7⟩:∃ x,x=(wl bs (m+16)).getD (m+9) 0:=⟨_,rfl⟩
     obtain⟨x16,h16⟩:∃ x,x=(wl bs (m+16)).getD m 0:=⟨_,rfl⟩
     have b15:x15<4294967296:=by rw[h15];exact getD_lt (wl_lt bs _) _
     have b2:x2<4294967296:=by rw[h2];exact getD_lt (wl_lt bs _) _
     have c15:wr.cell? ⟨G+1,m+1,none⟩=some (.int .u32 (x15:Int)):=cell_words hr2.row (by rw[h15];exact getD_app _ _ _ (by rw[hwl.out];omega))
     have c2:wr.cell? ⟨G+1,m+14,none⟩=some (.int .u32 (x2:Int)):=cell_words hr2.row (by rw[h2];exact getD_app _ _ _ (by rw[hwl.out];omega))
     have c7:wr.cell? ⟨G+1,m+9,none⟩=some (.int .u32 (x7:Int)):=cell_words hr2.row (by rw[h7];exact getD_app _ _ _ (by rw[hwl.out];omega))
     have c16:wr.cell? ⟨G+1,m,none⟩=some (.int .u32 (x16:Int)):=cell_words hr2.row (by rw[h16];exact getD_app _ _ _ (by rw[hwl.out];omega))
     have ct:wr.cell? ⟨G+1,m+16,none⟩=some (.int .u32 ((0:Nat):Int)):=cell_words hr2.row (by
      rw[List.getElem?_append_right (by rw[hwl.out];exact Nat.le_refl _),hwl.out,Nat.sub_self,List.getElem?_replicate,if_pos (by omega)])
     have hf:wr.frozen? ⟨G+1,m+16,none⟩=false:=frozen_of_row wr _ (m+16) _ _ hr2.row
     have HS2:Hid (∀ n,Rb w ((wr.drewN n).setCell ⟨G+1,m+16,none⟩ (.int .u32 (y:Int))) G (wl bs (m+16+1)++List.replicate (64-(m+16+1)) 0)):=λn=>by
      have:=(hr2.drewN n).store (m+16) y
      rw[set_stepW _ _ _ _ (hwl.out _) (by omega),hy] at this
      rw[hy]
      exact this
     have hy2:y=(sg1 x2+x7+sg0 x15+x16)%4294967296:=by rw[hy,h2,h7,h15,h16];rfl
     clear hr2 hy h15 h2 h7 h16
     have k15:IntKind.i64.wrap ((m:Int)+16-15)=((m+1:Nat):Int):=by rw[IntKind.wrap_i64];omega
     have k2:IntKind.i64.wrap ((m:Int)+16-2)=((m+14:Nat):Int):=by rw[IntKind.wrap_i64];omega
     have k7:IntKind.i64.wrap ((m:Int)+16-7)=((m+9:Nat):Int):=by rw[IntKind.wrap_i64];omega
     have k16:IntKind.i64.wrap ((m:Int)+16-16)=(m:Int):=by rw[IntKind.wrap_i64];omega
     obtain⟨s0,hs0⟩:∃ x,x=sg0 x15:=⟨_,rfl⟩
     obtain⟨s1,hs1⟩:∃ x,x=sg1 x2:=⟨_,rfl⟩
     rw[<-hs0,<-hs1] at hy2
     have q1:Hid (∀ W,Calls Tryz.prog 187 #[.int .u32 (x2:Int),.int .i64 17,.int .i64 19,.int .i64 (-10)] W λe w'=>e=.returned (.int .u32 (s1:Int))/\∃ m,w'=W.drewN m):=λW=>by
      rw[hs1];exact rmix_shift x2 17 19 10 (-10) b2 (by omega) (by omega) rfl (by omega) (by omega) W
     have q0:Hid (∀ W,Calls Tryz.prog 187 #[.int .u32 (x15:Int),.int .i64 7,.int .i64 18,.int .i64 (-3)] W λe w'=>e=.returned (.int .u32 (s0:Int))/\∃ m,w'=W.drewN m):=λW=>by
      rw[hs0];exact rmix_shift x15 7 18 3 (-3) b15 (by omega) (by omega) rfl (by omega) (by omega) W
     have ey:((s1:Int)+x7+s0+x16)%4294967296=(y:Int):=by rw[hy2];simp
     have ey2:((((s1:Int)+x7)%4294967296+s0)%4294967296+x16)%4294967296=(y:Int):=by omega
     clear hs0 hs1 hy2 b15 b2
     go_wp2
     have bb1:(m:Int)+1<64:=by omega
     have bb14:(m:Int)+14<64:=by omega
     have bb9:(m:Int)+9<64:=by omega
     have bb0:(m:Int)<64:=by omega
     have bb16:(m:Int)+16<64:=by omega
     have aa16:(0:Int)<=(m:Int)+16:=by omega
     have aa1:(0:Int)<=(m:Int)+1:=by omega
     have aa14:(0:Int)<=(m:Int)+14:=by omega
     have aa9:(0:Int)<=(m:Int)+9:=by omega
     have aa0:(0:Int)<=(m:Int):=by omega
     have cf:=hf
     have n1:((m:Int)+1).toNat=m+1:=by omega
     have n14:((m:Int)+14).toNat=m+14:=by omega
     have n9:((m:Int)+9).toNat=m+9:=by omega
     have n16:((m:Int)+16).toNat=m+16:=by omega
     have kk:IntKind.i64.wrap (m:Int)=(m:Int):=by rw[IntKind.wrap_i64];omega
     go_region_held3 (λw'=>w'.cell? ⟨G+1,m+1,none⟩=some (.int .u32 (x15:Int))/\w'.cell? ⟨G+1,m+14,none⟩=some (.int .u32 (x2:Int))/\w'.cell? ⟨G+1,m+9,none⟩=some (.int .u32 (x7:Int))/\w'.cell? ⟨G+1,m,none⟩=some (.int .u32 (x16:Int)))
      (first|go_keep|exact⟨f15,f2,f7,f16⟩|exact⟨d15,d2,d7,d16⟩|exact⟨g15 _,g2 _,g7 _,g16 _⟩)
      (first|(go_at_call_of 187 (Value.int .i64 17);refine(q1.out _).mono ?_;rintro e w4 ⟨rfl,mm,hw1⟩;(have d15:w4.cell? ⟨G+1,m+1,none⟩=some (.int .u32 (x15:Int)):=by rw[hw1];exact c15);(have d7:w4.cell? ⟨G+1,m+9,none⟩=some (.int .u32 (x7:Int)):=by rw[hw1];exact c7);(have d16:w4.cell? ⟨G+1,m,none⟩=some (.int .u32 (x16:Int)):=by rw[hw1];exact c16);(have d2:w4.cell? ⟨G+1,m+14,none⟩=some (.int .u32 (x2:Int)):=by rw[hw1];exact c2);(have dt:w4.cell? ⟨G+1,m+16,none⟩=some (.int .u32 ((0:Nat):Int)):=by rw[hw1];exact ct);(have df:w4.frozen? ⟨G+1,m+16,none⟩=false:=by rw[hw1];exact cf);(have Hw4:Hid (w4=wr.drew.drewN mm):=hw1);clear hw1)|(go_at_call_of 187 (Value.int .i64 7);refine(q0.out _).mono ?_;rintro e w5 ⟨rfl,mm2,hw1⟩;(have f15:w5.cell? ⟨G+1,m+1,none⟩=some (.int .u32 (x15:Int)):=by rw[hw1];exact d15);(have f7:w5.cell? ⟨G+1,m+9,none⟩=some (.int .u32 (x7:Int)):=by rw[hw1];exact d7);(have f16:w5.cell? ⟨G+1,m,none⟩=some (.int .u32 (x16:Int)):=by rw[hw1];exact d16);(have f2:w5.cell? ⟨G+1,m+14,none⟩=some (.int .u32 (x2:Int)):=by rw[hw1];exact d2);(have ft:w5.cell? ⟨G+1,m+16,none⟩=some (.int .u32 ((0:Nat):Int)):=by rw[hw1];exact dt);(have ff:w5.frozen? ⟨G+1,m+16,none⟩=false:=by rw[hw1];exact df);(have g15:∀ v,(w5.setCell ⟨G+1,m+16,none⟩ v).cell? ⟨G+1,m+1,none⟩=some (.int .u32 (x15:Int)):=λv=>by rw[World.cell?_setCell_other _ _ _ _ (by simp)];exact f15);(have g2:∀ v,(w5.setCell ⟨G+1,m+16,none⟩ v).cell? ⟨G+1,m+14,none⟩=some (.int .u32 (x2:Int)):=λv=>by rw[World.cell?_setCell_other _ _ _ _ (by simp)];exact f2);(have g7:∀ v,(w5.setCell ⟨G+1,m+16,none⟩ v).cell? ⟨G+1,m+9,none⟩=some (.int .u32 (x7:Int)):=λv=>by rw[World.cell?_setCell_other _ _ _ _ (by simp)];exact f7);(have g16:∀ v,(w5.setCell ⟨G+1,m+16,none⟩ v).cell? ⟨G+1,m,none⟩=some (.int .u32 (x16:Int)):=λv=>by rw[World.cell?_setCell_other _ _ _ _ (by simp)];exact f16);(have Hw5:Hid (w5=w4.drewN mm2):=hw1);clear hw1))
     have hfin:=HS2.out (1+mm+mm2)
     rw[show wr.drewN (1+mm+mm2)=w5 from by rw[Hw5.out,Hw4.out];simp[Nat.add_assoc]] at hfin
     have HFIN:Hid (Rb w (w5.setCell ⟨G+1,m+16,none⟩ (.int .u32 (y:Int))) G (wl bs (m+16+1)++List.replicate (64-(m+16+1)) 0)):=hfin
     clear hfin
     go_wp2
     go_roundw
     case rel=>exact⟨m+1,by omega,by go_num,by rw[show m+1+16=m+16+1 from by omega];first|exact HFIN.out|(rw[ey2];exact HFIN.out)|(rw[ey];exact HFIN.out)⟩
     case measure=>simp[intOf];omega
    ·obtain rfl:m=48:=by omega
     obtain⟨C,hC2⟩:∃ C,C=wl bs 64:=⟨_,rfl⟩
     have hr3:Rb w wr G C:=by rw[hC2];have:=hr2;simp only[Nat.reduceAdd,Nat.sub_self,List.replicate_zero,List.append_nil] at this;exact this
     have hCl:Hid (C.length=64):=by rw[hC2];exact hwl.out 64
     have hmix:Hid (mixS s bs=addS s (rnds C s 64)):=by rw[hC2];exact rfl
     clear hr2 hC2
     obtain⟨ab,ao,rfl,hac⟩:=HA.out.at' (by simp[S8.list])
     have HAC:Hid (∀ (i x:Nat),s.list[i]?=some x->w.cell? ⟨ab,ao+i,none⟩=some (.int .u32 (x:Int))):=hac
     obtain⟨g,cap,w6,hrun,hb6,hlow,hcap,hcm,hcell⟩:=clone_words wr ⟨ab,ao,none⟩ ca s.list (HA.out.below hr3.bel) (by simp[S8.list]) (by simp[S8.list])
     have HR:Hid ((Builtin.append_ #[157,157] 157 #[.slice (some ⟨wr.heap.size,0,none⟩) 0 0,.slice (some ⟨ab,ao,none⟩) 8 ca]).run Tryz.prog (wr.alloc (.cells #[] 62))=.ok (.slice (some ⟨g,0,none⟩) 8 cap) w6):=hrun
     have hr4:=hr3.on hb6
     have hcap8:8<=cap:=hcap
     have HCE:Hid (∀ k x:Nat,s.list[k]?=some x->w6.cell? ⟨g,k,none⟩=some (.int .u32 (x:Int))):=hcell
     clear hrun hb6 hr3 hac hcell hlow hcap
     unfold maxLen at hcm
     go_wp2_with (at_builtin;refine wpList_append_run rfl _ _ 157 rfl _ _ _ rfl rfl HR.out ?_)
     go_loopw [12,13] (λv i wr=>∃ (t sb sc:Nat),t<=64/\i=.int .i64 t/\v=.slice (some ⟨sb,0,none⟩) 8 sc/\8<=sc/\sc<=9223372036854775807 /\
       Hid (∀ k x:Nat,(rnds C s t).list[k]?=some x->wr.cell? ⟨sb,k,none⟩=some (.int .u32 (x:Int)))/\Rb w wr G C /\
       Hid (0<t->wr.heap[sb]?=some (.cells ((rnds C s t).list.map wcell).toArray 62 (0,0))/\sc=8/\G+1<sb))
      (λ_ i _=>64-(intOf i).toNat)
     case atStart=>exact⟨0,g,cap,by omega,rfl,rfl,hcap8,by omega,HCE,hr4,λh=>absurd h (by omega)⟩
     case round=>
      obtain⟨t,sb,sc,ht,rfl,rfl,hsc,hsm,HCC,hr5,HRow⟩:=hrel
      clear hr4 HCE HR
      by_cases hlt3:t<64
      ·obtain⟨x,hx⟩:∃ x,C[t]?=some x:=⟨C[t]'(by rw[hCl.out];exact hlt3),by simp[hCl.out,hlt3]⟩
       have hxc:wr.cell? ⟨G+1,t,none⟩=some (.int .u32 (x:Int)):=cell_words hr5.row hx
       obtain⟨k,hk⟩:∃ k,kTab[t]?=some k:=⟨_,List.getElem?_eq_getElem (by rw[kTab_length];exact hlt3)⟩
       have hkc:wr.cell? ⟨G,t,none⟩=some (.int .u32 (k:Int)):=cell_words hr5.kt hk
       have hsm8:=rnds_small C HS.out t
       obtain⟨R,hR⟩:∃ R,R=rnds C s t:=⟨_,rfl⟩
       have hnext:Hid (rnds C s (t+1)=rnd k x R):=by
        rw[hR]
        show rnd (kTab.getD t 0) (C.getD t 0) (rnds C s t)=_
        rw[show C.getD t 0=x from by rw[List.getD_eq_getElem?_getD,hx];rfl,show kTab.getD t 0=k from by rw[List.getD_eq_getElem?_getD,hk];rfl]
       rw[<-hR] at hsm8 HCC
       clear hR hk hx HRow
       obtain⟨ra,rb,rc,rd,re,rf,rg,rh⟩:=R
       obtain⟨ba,bb,bc,bd,be',bf,bg,bh⟩:=hsm8
       have z0:wr.cell? ⟨sb,0,none⟩=some (.int .u32 (ra:Int)):=HCC.out 0 ra rfl
       have z1:wr.cell? ⟨sb,1,none⟩=some (.int .u32 (rb:Int)):=HCC.out 1 rb rfl
       have z2:wr.cell? ⟨sb,2,none⟩=some (.int .u32 (rc:Int)):=HCC.out 2 rc rfl
       have z3:wr.cell? ⟨sb,3,none⟩=some (.int .u32 (rd:Int)):=HCC.out 3 rd rfl
       have z4:wr.cell? ⟨sb,4,none⟩=some (.int .u32 (re:Int)):=HCC.out 4 re rfl
       have z5:wr.cell? ⟨sb,5,none⟩=some (.int .u32 (rf:Int)):=HCC.out 5 rf rfl
       have z6:wr.cell? ⟨sb,6,none⟩=some (.int .u32 (rg:Int)):=HCC.out 6 rg rfl
       have z7:wr.cell? ⟨sb,7,none⟩=some (.int .u32 (rh:Int)):=HCC.out 7 rh rfl
       dsimp only at ba bb bc bd be' bf bg bh
       obtain⟨q1,hq1⟩:∃ q,q=rot3 re 6 11 25:=⟨_,rfl⟩
       obtain⟨q2,hq2⟩:∃ q,q=rot3 ra 2 13 22:=⟨_,rfl⟩
       obtain⟨c,hc⟩:∃ c,c=ch re rf rg:=⟨_,rfl⟩
       obtain⟨j,hj⟩:∃ c,c=maj ra rb rc:=⟨_,rfl⟩
       obtain⟨x1,hx1⟩:∃ x1,x1=T1 k x ⟨ra,rb,rc,rd,re,rf,rg,rh⟩:=⟨_,rfl⟩
       obtain⟨x2,hx2⟩:∃ x2,x2=T2 ⟨ra,rb,rc,rd,re,rf,rg,rh⟩:=⟨_,rfl⟩
       obtain⟨ne,hne⟩:∃ y,y=(rd+x1)%4294967296:=⟨_,rfl⟩
       obtain⟨na,hna⟩:∃ y,y=(x1+x2)%4294967296:=⟨_,rfl⟩
       have t1:∀ W,Calls Tryz.prog 187 #[.int .u32 (re:Int),.int .i64 6,.int .i64 11,.int .i64 25] W λe w'=>e=.returned (.int .u32 (q1:Int))/\∃ m,w'=W.drewN m:=λW=>by
        rw[hq1];exact rmix_turn re 6 11 25 be' (by omega) (by omega) (by omega) W
       have t2:∀ W,Calls Tryz.prog 187 #[.int .u32 (ra:Int),.int .i64 2,.int .i64 13,.int .i64 22] W λe w'=>e=.returned (.int .u32 (q2:Int))/\∃ m,w'=W.drewN m:=λW=>by
        rw[hq2];exact rmix_turn ra 2 13 22 ba (by omega) (by omega) (by omega) W
       have TT1:Hid (∀ n,Calls Tryz.prog 187 #[.int .u32 (re:Int),.int .i64 6,.int .i64 11,.int .i64 25] (wr.drewN n) λe w'=>e=.returned (.int .u32 (q1:Int))/\∃ m,w'=wr.drewN m):=λn=>
        (t1 _).mono λ_ _ ⟨he,m,hm⟩=>⟨he,n+m,by rw[hm,World.drewN_drewN]⟩
       have TT2:Hid (∀ n0 n,Calls Tryz.prog 187 #[.int .u32 (ra:Int),.int .i64 2,.int .i64 13,.int .i64 22] (wr.drewN (n0+n)) λe w'=>e=.returned (.int .u32 (q2:Int))/\∃ m,w'=wr.drewN (n0+m)):=λn0 n=>
        (t2 _).mono λ_ _ ⟨he,m,hm⟩=>⟨he,n+m,by rw[hm,World.drewN_drewN,Nat.add_assoc]⟩
       have e1:bits .xor .u32 (bits .and .u32 (re:Int) (rf:Int)) (bits .and .u32 (bits .xor .u32 IntKind.u32.max (re:Int)) (rg:Int))=(c:Int):=by rw[hc];exact ch_bits re rf rg be' bf bg
       have e2:bits .xor .u32 (bits .xor .u32 (bits .and .u32 (ra:Int) (rb:Int)) (bits .and .u32 (ra:Int) (rc:Int))) (bits .and .u32 (rb:Int) (rc:Int))=(j:Int):=by rw[hj];exact maj_bits ra rb rc ba bb bc
       have e3:((rh:Int)+q1+c+k+x)%4294967296=(x1:Int):=by rw[hx1,hq1,hc];simp[T1]
       have e4:((q2:Int)+j)%4294967296=(x2:Int):=by rw[hx2,hq2,hj];simp[T2]
       have e5:((rd:Int)+x1)%4294967296=(ne:Int):=by rw[hne];simp
       have e6:((x1:Int)+x2)%4294967296=(na:Int):=by rw[hna];simp
       have e7:((x1:Int)+((q2:Int)+j))%4294967296=(na:Int):=by omega
       have hnx:Hid (rnds C s (t+1)=⟨na,ra,rb,rc,ne,re,rf,rg⟩):=by
        rw[hnext.out,hna,hne,hx1,hx2];exact rfl
       have HR6:Hid (∀ n,Rb w ((wr.drewN n).alloc (.cells #[.int .u32 (na:Int),.int .u32 (ra:Int),.int .u32 (rb:Int),.int .u32 (rc:Int),.int .u32 (ne:Int),.int .u32 (re:Int),.int .u32 (rf:Int),.int .u32 (rg:Int)] 62)) G C):=λn=>
        hr5.on (below_drewN (Below.refl _ _) n |>.alloc (Nat.le_refl _) _)
       have hGs:Hid (G+1<wr.heap.size):=hr5.size
       clear hq1 hq2 hc hj hx1 hx2 hne hna hnext HCC hr5 t1 t2
       go_wp2
       go_quiet (first|(go_at_call 187;exact TT1.out _))
       go_wp2
       go_quiet (first|(go_at_call 187;exact TT2.out _ _))
       go_wp2
       clear e1 e2 e3 z0 z7 hkc hxc
       go_region
       go_wp2
       go_roundw
       case rel=>
        refine⟨t+1,wr.heap.size,8,by omega,by go_num,rfl,by omega,by omega,?_,HR6.out _,?_⟩
        ·intro k' x' hx'
         rw[hnx.out] at hx'
         exact cell_words (cs:=[na,ra,rb,rc,ne,re,rf,rg]) (heap_alloc_new (wr.drewN _) _) hx'
        ·intro _
         refine⟨?_,rfl,hGs.out⟩
         rw[hnx.out]
         exact heap_alloc_new (wr.drewN _) _
       case measure=>simp[intOf];omega
      ·obtain rfl:t=64:=by omega
       obtain⟨hrow0,hsc8,hGsb⟩:=HRow.out (by omega)
       subst hsc8
       obtain⟨R,hR⟩:∃ R,R=rnds C s 64:=⟨_,rfl⟩
       rw[<-hR] at hrow0
       have hmix2:Hid (mixS s bs=addS s R):=by rw[hR];exact hmix.out
       have hrow1:wr.heap[sb]?=some (.cells (((addS s R).list.take 0++R.list.drop 0).map wcell).toArray 62 (0,0)):=hrow0
       have hbl1:=hr5.bel
       have hsbw:w.heap.size<=sb:=by have:=hr5.low;omega
       clear HCC hr5 HRow hrow0 hR hmix
       go_wp2
       go_loopw [18] (λi wr=>∃ k:Nat,k<=8/\i=.int .i64 k/\wr.heap[sb]?=some (.cells (((addS s R).list.take k++R.list.drop k).map wcell).toArray 62 (0,0))/\Below w.heap.size w wr) (λi _=>8-(intOf i).toNat)
       case atStart=>exact⟨0,by omega,rfl,hrow1,hbl1⟩
       case round=>
        obtain⟨k,hk,rfl,hrow,hbl⟩:=hrel
        clear hrow1 hbl1
        by_cases hlt4:k<8
        ·obtain⟨p,q,hp,hq,hy⟩:=add_at s R k hlt4
         have hcell:wr.cell? ⟨sb,k,none⟩=some (.int .u32 (q:Int)):=cell_words hrow (at_mid _ _ k q hq (by simp[S8.list];omega))
         have hfr:wr.frozen? ⟨sb,k,none⟩=false:=frozen_of_row wr _ k _ _ hrow
         have hsc:=HAC.out k p hp
         have hlt5:ab<w.heap.size:=World.block_lt_of_cell? w _ hsc
         have hstc:wr.cell? ⟨ab,ao+k,none⟩=some (.int .u32 (p:Int)):=by rw[hbl.cell (p:=⟨ab,ao+k,none⟩) hlt5];exact hsc
         obtain⟨y,hyy⟩:∃ y,y=(p+q)%4294967296:=⟨_,rfl⟩
         have e1:((q:Int)+p)%4294967296=(y:Int):=by rw[hyy];simp[Int.add_comm]
         have HROW:Hid (∀ n,((wr.drewN n).setCell ⟨sb,k,none⟩ (.int .u32 (y:Int))).heap[sb]?=some (.cells (((addS s R).list.take (k+1)++R.list.drop (k+1)).map wcell).toArray 62 (0,0))):=λn=>by
          have:=setCell_words (w:=wr.drewN n) hrow k y
          rw[set_mid _ _ k y (by rw[hyy];exact hy) (by simp[S8.list])] at this
          exact this
         have HBL:Hid (∀ n,Below w.heap.size w ((wr.drewN n).setCell ⟨sb,k,none⟩ (.int .u32 (y:Int)))):=λn=>(below_drewN hbl n).setCell (p:=⟨sb,k,none⟩) hsbw _
         have g0:(0:Int)<=(k:Int):=Int.natCast_nonneg _
         clear hrow hbl hyy hp hq hy hsc
         go_wp2
         go_region
         go_wp2
         go_roundw
         case rel=>exact⟨k+1,by omega,by go_num,HROW.out _,HBL.out _⟩
         case measure=>simp[intOf];omega
        ·obtain rfl:k=8:=by omega
         have hrow9:wr.heap[sb]?=some (.cells ((mixS s bs).list.map wcell).toArray 62 (0,0)):=by rw[hmix2.out];exact hrow
         have hW:=Words.of_row' hrow9 (by simp[S8.list]) (S8.small_list (mixS_small s bs))
         clear hrow hrow9
         go_wp2
         go_ret2
         exact⟨some ⟨sb,0,none⟩,8,rfl,hW,hbl⟩
end Go.Proofs.YthogohkieiogiaaGreatDoor
