/-
  The contracts of word.Turn, of the document's Turn and of 'awake'.

  The contracts of word.Load, word.Long and of the document's.

  The contracts of sha.turned and sha.spread.

  The contract of sha.mix: the state behind a block.
-/
import Derived.Test.YthogohkieiogiaaGreatDoorRows
import Derived.Test.YthogohkieiogiaaGreatDoorPure
import Derived.WalkKit
import Derived.ProofKit
import Derived.OpenShut
import Derived.Deep.QuietTactic
import Derived.BigQuiet
import Derived.BigRegion
namespace Go.Proofs.YthogohkieiogiaaGreatDoor
set_option maxRecDepth 20000
set_option maxHeartbeats 1600000
open Go.ChangeShapes Go.WideShapes Go.ChangeAt Go.RowKit
theorem ret_int {k:IntKind}{a b:Int}(h:a=b):Ending.returned (.int k a)=.returned (.int k b):=by rw[h]
theorem and31 (n:Int):bits .and .u64 (IntKind.u64.wrap n) 31=n%32:=by
 obtain⟨m,hm⟩:∃ m:Nat,IntKind.u64.wrap n=m:=⟨(IntKind.u64.wrap n).toNat,by have:=wrap_u64_nonneg n;omega⟩
 have hb:IntKind.u64.wrap n=n%18446744073709551616:=by simp[IntKind.wrap,IntKind.bits,IntKind.signed]
 rw[hm,show (31:Int)=((31:Nat):Int) from rfl,u64_and_nat m 31 (by omega) (by omega)]
 rw[show m&&&31=m%2^5 from Nat.and_two_pow_sub_one_eq_mod m 5]
 omega
theorem rot_int (x k:Nat)(hx:x<4294967296):bits .or .u32 ((x:Int)/2^k) ((x:Int)*2^(32-k)%4294967296)=(rotr x k:Nat):=by
 have h1:(x:Int)/2^k=((x>>>k:Nat):Int):=by rw[Nat.shiftRight_eq_div_pow];simp
 have h2:(x:Int)*2^(32-k)%4294967296=(((x<<<(32-k))%4294967296:Nat):Int):=by rw[Nat.shiftLeft_eq];simp
 rw[h1,h2,u32_or_nat _ _ _ (Nat.mod_lt _ (by omega))]
 ·rfl
 ·exact Nat.lt_of_le_of_lt (by rw[Nat.shiftRight_eq_div_pow];exact Nat.div_le_self _ _) hx
theorem turn_any (x k:Nat)(n:Int)(hx:x<4294967296)(hk:n%32=k)(w:World):
  Calls Tryz.prog 205 #[.int .u32 x,.int .i64 n] w λe w'=>e=.returned (.int .u32 (rotr x k:Nat))/\w'=w:=by
 have hk2:k<32:=by omega
 have h31:=and31 n
 rw[hk] at h31
 clear hk
 go_enter Tryz.func205,Tryz.ntmps205
 go_wp2
 go_ret
 exact⟨ret_int (rot_int x k hx),rfl⟩
theorem or8 (x c:Nat)(hc:c<256):x*256|||c=x*256+c:=by
 have:=Nat.shiftLeft_add_eq_or_of_lt (i:=8) (b:=c) (by omega) x
 rw[Nat.shiftLeft_eq,show (2:Nat)^8=256 from rfl] at this
 exact this.symm
theorem or_u32 (x:Nat)(c:UInt8)(hx:x<16777216):bits .or .u32 ((x:Int)*256) (c.toNat:Int)=((x*256+c.toNat:Nat):Int):=by
 have hc:=c.toNat_lt
 rw[show (x:Int)*256=((x*256:Nat):Int) from by omega,u32_or_nat _ _ (by omega) (by omega),or8 x _ (by omega)]
theorem or_u64 (x:Nat)(c:UInt8)(hx:x<72057594037927936):bits .or .u64 ((x:Int)*256) (c.toNat:Int)=((x*256+c.toNat:Nat):Int):=by
 have hc:=c.toNat_lt
 rw[show (x:Int)*256=((x*256:Nat):Int) from by omega,u64_or_nat _ _ (by omega) (by omega),or8 x _ (by omega)]
theorem load32_yes (w:World)(a:Option Addr)(cap:Nat)(bs:List UInt8)(p:Nat)(h:Sees w a cap bs)(hp:p+4<=bs.length):
  Calls Tryz.prog 206 #[.slice a bs.length cap,.int .i64 p,.int .i64 4] w λe w'=>e=.returned (.tuple #[.int .u32 (be ((bs.drop p).take 4):Nat),.int .i64 0])/\w'=w:=by
 have hfit:=h.fits
 have hroom:=h.room
 unfold maxLen at hroom
 obtain⟨b,off,rfl,hcell⟩:=h.at' (by rintro rfl;simp at hp)
 have Hc:Hid (∀ i x,bs[i]?=some x->w.cell? ⟨b,off+i,none⟩=some (.int .u8 x.toNat)):=hcell
 have d1:decide ((p:Int)<0)=false:=by simp
 have d2:decide ((bs.length:Int)-4<(p:Int))=false:=by simp;omega
 clear h hcell
 go_enter Tryz.func206,Tryz.ntmps206
 go_wp2
 go_loop [8,28] (λx i=>∃ k:Nat,k<=4/\i=.int .i64 k/\x=.int .u32 (be ((bs.drop p).take k):Nat)) (λ_ i=>4-(intOf i).toNat)
 case atStart=>exact⟨0,by omega,rfl,rfl⟩
 case round=>
  obtain⟨k,hk,rfl,rfl⟩:=hrel
  by_cases hlt:k<4
  ·obtain⟨c,hc⟩:∃ c,bs[p+k]?=some c:=⟨bs[p+k]'(by omega),by simp[show p+k<bs.length by omega]⟩
   have hcl:w.cell? ⟨b,off+p+k,none⟩=some (.int .u8 c.toNat):=by rw[Nat.add_assoc];exact Hc.out _ c hc
   have hdk:(bs.drop p)[k]?=some c:=by rw[List.getElem?_drop];exact hc
   obtain⟨x,hx⟩:∃ x,x=be ((bs.drop p).take k):=⟨_,rfl⟩
   have hxl:x<16777216:=by
    have h1:=be_lt ((bs.drop p).take k)
    have h2:((bs.drop p).take k).length<=k:=List.length_take_le _ _
    have h3:256^((bs.drop p).take k).length<=256^3:=Nat.pow_le_pow_right (by omega) (by omega)
    rw[hx];have h4:(256:Nat)^3=16777216:=by decide
    omega
   have e1:=or_u32 x c hxl
   have HS:Hid (be ((bs.drop p).take (k+1))=x*256+c.toNat):=by
    rw[take_snoc _ k c hdk,be_snoc,hx];exact rfl
   have hcb:=c.toNat_lt
   rw[<-hx]
   clear hc hdk hx
   go_wp2
   go_round
   case rel=>exact⟨k+1,by omega,by go_num,by rw[HS.out];go_num⟩
   case measure=>simp[intOf];omega
  ·obtain rfl:k=4:=by omega
   go_wp2
   go_ret2
   exact⟨rfl,rfl⟩
theorem Load32_yes (w:World)(a:Option Addr)(cap:Nat)(bs:List UInt8)(p:Nat)(h:Sees w a cap bs)(hp:p+4<=bs.length):
  Calls Tryz.prog 204 #[.slice a bs.length cap,.int .i64 p] w λe w'=>e=.returned (.tuple #[.int .u32 (be ((bs.drop p).take 4):Nat),.int .i64 0])/\w'=w:=by
 go_enter Tryz.func204,Tryz.ntmps204
 go_wp2_with fail
 refine(load32_yes w a cap bs p h hp).mono ?_
 rintro e w' ⟨rfl,rfl⟩
 go_wp2
 go_ret2
 exact⟨rfl,rfl⟩
theorem bx32 (x y:Nat)(hx:x<4294967296)(hy:y<4294967296):bits .xor .u32 (x:Int) (y:Int)=((x^^^y:Nat):Int):=u32_xor_nat x y hx hy
theorem turned_any (x i j k:Nat)(hx:x<4294967296)(hi:i<32)(hj:j<32)(hk:k<32)(w:World):
  Calls Tryz.prog 203 #[.int .u32 x,.int .i64 i,.int .i64 j,.int .i64 k] w λe w'=>e=.returned (.int .u32 (rot3 x i j k:Nat))/\w'=w:=by
 obtain⟨y,hy⟩:∃ y,y=rotr x i^^^rotr x j:=⟨_,rfl⟩
 obtain⟨z,hz⟩:∃ z,z=rot3 x i j k:=⟨_,rfl⟩
 have e1:bits .xor .u32 (rotr x i:Int) (rotr x j:Int)=(y:Int):=by rw[hy];exact bx32 _ _ (rotr_lt x i hx hi) (rotr_lt x j hx hj)
 have e2:bits .xor .u32 (y:Int) (rotr x k:Int)=(z:Int):=by rw[hy,hz];exact bx32 _ _ (xor_lt32 (rotr_lt x i hx hi) (rotr_lt x j hx hj)) (rotr_lt x k hx hk)
 have HZ:Hid (z=rot3 x i j k):=hz
 clear hy hz
 go_enter Tryz.func203,Tryz.ntmps203
 go_wp2_with fail
 refine(turn_any x i i hx (by omega) _).mono ?_
 rintro e w' ⟨rfl,rfl⟩
 go_wp2_with fail
 refine(turn_any x j j hx (by omega) _).mono ?_
 rintro e w' ⟨rfl,rfl⟩
 go_wp2_with fail
 refine(turn_any x k k hx (by omega) _).mono ?_
 rintro e w' ⟨rfl,rfl⟩
 go_wp2
 go_ret
 exact⟨by rw[HZ.out];rfl,rfl⟩
theorem sg_facts (w:World)(x i j k d:Nat)(hx:x<4294967296)(hi:i<32)(hj:j<32)(hd:2^k=d):
  ∃ r q y : Nat, (∀ n, Calls Tryz.prog 205 #[.int .u32 (x : Int), .int .i64 (i : Nat)] (w.drewN n) fun e w' => e = .returned (.int .u32 (r : Int)) ∧ w' = w.drewN n) ∧
    (∀ n, Calls Tryz.prog 205 #[.int .u32 (x : Int), .int .i64 (j : Nat)] (w.drewN n) fun e w' => e = .returned (.int .u32 (q : Int)) ∧ w' = w.drewN n) ∧
    bits .xor .u32 (r : Int) (q : Int) = (y : Int) ∧ bits .xor .u32 (y : Int) ((x : Int) / (d : Int)) = ((rotr x i ^^^ rotr x j ^^^ (x >>> k) : Nat) : Int) := by
 refine⟨rotr x i,rotr x j,rotr x i^^^rotr x j,λn=>turn_any x i i hx (by omega) _,λn=>turn_any x j j hx (by omega) _,bx32 _ _ (rotr_lt x i hx hi) (rotr_lt x j hx hj),?_⟩
 have h1:(x:Int)/(d:Int)=((x>>>k:Nat):Int):=by rw[Nat.shiftRight_eq_div_pow,hd];simp
 rw[h1]
 exact bx32 _ _ (xor_lt32 (rotr_lt x i hx hi) (rotr_lt x j hx hj)) (shr_lt32 hx)
structure Sp (w wr:World)(cs:List Nat):Prop where
 res:wr.heap[w.heap.size]?=some (.cells ((List.replicate 64 0).map wcell).toArray 266 (0,0))
 row:wr.heap[w.heap.size+1]?=some (.cells (cs.map wcell).toArray 266 (0,0))
 bel:Below w.heap.size w wr
theorem Sp.cell {w wr:World}{cs:List Nat}(h:Sp w wr cs){k x:Nat}(hx:cs[k]?=some x):wr.cell? ⟨w.heap.size+1,k,none⟩=some (.int .u32 (x:Int)):=cell_words h.row hx
theorem Sp.frozen {w wr:World}{cs:List Nat}(h:Sp w wr cs)(k:Nat):wr.frozen? ⟨w.heap.size+1,k,none⟩=false:=frozen_of_row wr _ k _ _ h.row
theorem Sp.store {w wr:World}{cs:List Nat}(h:Sp w wr cs)(k x:Nat):Sp w (wr.setCell ⟨w.heap.size+1,k,none⟩ (.int .u32 (x:Int))) (cs.set k x):=
 ⟨by rw[heap_setCell_other _ _ _ _ (by simp)];exact h.res,setCell_words h.row k x,h.bel.setCell (p:=⟨w.heap.size+1,k,none⟩) (by simp) _⟩
theorem Sp.drewN {w wr:World}{cs:List Nat}(h:Sp w wr cs)(n:Nat):Sp w (wr.drewN n) cs:=⟨h.res,h.row,below_drewN h.bel n⟩
theorem spread_any (w:World)(a:Option Addr)(cap:Nat)(bs:List UInt8)(ha:Sees w a cap bs)(hl:bs.length=64):
  Calls Tryz.prog 202 #[.slice a 64 cap] w λe w'=>e=.returned (.agg ((wl bs 64).map wcell).toArray)/\Below w.heap.size w w':=by
 have HL:Hid (bs.length=64):=hl
 have hwl:Hid (∀ t,(wl bs t).length=t):=wl_length bs
 clear hl
 have h0:Sp w ((w.alloc (.cells ((List.replicate 64 0).map wcell).toArray 266)).alloc (.cells ((List.replicate 64 0).map wcell).toArray 266)) (wl bs 0++List.replicate (64-0) 0):=
  ⟨heap_alloc2_old w _ _,heap_alloc2_new w _ _,((Below.refl _ _).alloc (Nat.le_refl _) _).alloc (by simp) _⟩
 go_enter Tryz.func202,Tryz.ntmps202
 go_wp2
 go_loopw [8] (λi wr=>∃ t:Nat,t<=16/\i=.int .i64 t/\Sp w wr (wl bs t++List.replicate (64-t) 0)) (λi _=>16-(intOf i).toNat)
 case atStart=>exact⟨0,by omega,rfl,h0⟩
 case round=>
  obtain⟨t,ht,rfl,hs⟩:=hrel
  clear h0
  by_cases hlt:t<16
  ·have hc:wr.cell? ⟨w.heap.size+1,t,none⟩=some (.int .u32 ((0:Nat):Int)):=hs.cell (by
    rw[List.getElem?_append_right (by rw[hwl.out];exact Nat.le_refl _),hwl.out,Nat.sub_self,List.getElem?_replicate,if_pos (by omega)])
   have hf:=hs.frozen t
   have hst:=hs.store t (nextW bs (wl bs t) t)
   rw[set_stepW _ _ _ _ (hwl.out t) (by omega)] at hst
   have hb:=ha.below hs.bel
   have HS:Hid (Sp w (wr.setCell ⟨w.heap.size+1,t,none⟩ (.int .u32 ((nextW bs (wl bs t) t:Nat):Int))) (wl bs (t+1)++List.replicate (64-(t+1)) 0)):=hst
   clear hst hs
   have hx:be ((bs.drop (4*t)).take 4)=nextW bs (wl bs t) t:=by simp[nextW,hlt]
   obtain⟨x,hxx⟩:∃ x,x=nextW bs (wl bs t) t:=⟨_,rfl⟩
   rw[<-hxx] at HS hx
   clear hxx
   go_wp2_with fail
   have hld:=Load32_yes wr a cap bs (4*t) hb (by rw[HL.out];omega)
   rw[HL.out,hx] at hld
   refine hld.mono ?_
   rintro e w' ⟨rfl,rfl⟩
   clear hld hx
   go_wp2
   go_roundw
   case rel=>exact⟨t+1,by omega,by go_num,HS.out⟩
   case measure=>simp[intOf];omega
  ·obtain rfl:t=16:=by omega
   go_wp2
   go_loopw [5] (λi wr=>∃ m:Nat,m<=48/\i=.int .i64 ((m+16:Nat):Int)/\Sp w wr (wl bs (m+16)++List.replicate (64-(m+16)) 0)) (λi _=>64-(intOf i).toNat)
   case atStart=>exact⟨0,by omega,rfl,hs⟩
   case round=>
    obtain⟨m,hm,rfl,hs2⟩:=hrel
    clear hs
    by_cases hlt2:m<48
    ·obtain⟨y,hy⟩:∃ y,y=nextW bs (wl bs (m+16)) (m+16):=⟨_,rfl⟩
     obtain⟨x15,h15⟩:∃ x,x=(wl bs (m+16)).getD (m+1) 0:=⟨_,rfl⟩
     obtain⟨x2,h2⟩:∃ x,x=(wl bs (m+16)).getD (m+14) 0:=⟨_,rfl⟩
     obtain⟨x7,h7⟩:∃ x,x=(wl bs (m+16)).getD (m+9) 0:=⟨_,rfl⟩
     obtain⟨x16,h16⟩:∃ x,x=(wl bs (m+16)).getD m 0:=⟨_,rfl⟩
     have b15:x15<4294967296:=by rw[h15];exact getD_lt (wl_lt bs _) _
     have b2:x2<4294967296:=by rw[h2];exact getD_lt (wl_lt bs _) _
     have c15:wr.cell? ⟨w.heap.size+1,m+1,none⟩=some (.int .u32 (x15:Int)):=hs2.cell (by rw[h15];exact getD_app _ _ _ (by rw[hwl.out];omega))
     have c2:wr.cell? ⟨w.heap.size+1,m+14,none⟩=some (.int .u32 (x2:Int)):=hs2.cell (by rw[h2];exact getD_app _ _ _ (by rw[hwl.out];omega))
     have c7:wr.cell? ⟨w.heap.size+1,m+9,none⟩=some (.int .u32 (x7:Int)):=hs2.cell (by rw[h7];exact getD_app _ _ _ (by rw[hwl.out];omega))
     have c16:wr.cell? ⟨w.heap.size+1,m,none⟩=some (.int .u32 (x16:Int)):=hs2.cell (by rw[h16];exact getD_app _ _ _ (by rw[hwl.out];omega))
     have ct:wr.cell? ⟨w.heap.size+1,m+16,none⟩=some (.int .u32 ((0:Nat):Int)):=hs2.cell (by
      rw[List.getElem?_append_right (by rw[hwl.out];exact Nat.le_refl _),hwl.out,Nat.sub_self,List.getElem?_replicate,if_pos (by omega)])
     have hf:=hs2.frozen (m+16)
     have hst:∀ n,Sp w ((wr.drewN n).setCell ⟨w.heap.size+1,m+16,none⟩ (.int .u32 (y:Int))) (wl bs (m+16+1)++List.replicate (64-(m+16+1)) 0):=λn=>by
      have:=(hs2.drewN n).store (m+16) y
      rw[set_stepW _ _ _ _ (hwl.out _) (by omega),hy] at this
      rw[hy]
      exact this
     have HS:Hid (∀ n,Sp w ((wr.drewN n).setCell ⟨w.heap.size+1,m+16,none⟩ (.int .u32 (y:Int))) (wl bs (m+16+1)++List.replicate (64-(m+16+1)) 0)):=hst
     have hy2:y=(sg1 x2+x7+sg0 x15+x16)%4294967296:=by rw[hy,h2,h7,h15,h16];rfl
     clear hst hs2 hy h15 h2 h7 h16
     have k15:IntKind.i64.wrap ((m:Int)+16-15)=((m+1:Nat):Int):=by rw[IntKind.wrap_i64];omega
     have k2:IntKind.i64.wrap ((m:Int)+16-2)=((m+14:Nat):Int):=by rw[IntKind.wrap_i64];omega
     have k7:IntKind.i64.wrap ((m:Int)+16-7)=((m+9:Nat):Int):=by rw[IntKind.wrap_i64];omega
     have k16:IntKind.i64.wrap ((m:Int)+16-16)=(m:Int):=by rw[IntKind.wrap_i64];omega
     obtain⟨s0,hs0⟩:∃ x,x=sg0 x15:=⟨_,rfl⟩
     obtain⟨s1,hs1⟩:∃ x,x=sg1 x2:=⟨_,rfl⟩
     rw[<-hs0,<-hs1] at hy2
     obtain⟨r7,r18,q0,t7,t18,e1,e2⟩:=sg_facts wr x15 7 18 3 8 b15 (by omega) (by omega) rfl
     obtain⟨r17,r19,q1,t17,t19,e3,e4⟩:=sg_facts wr x2 17 19 10 1024 b2 (by omega) (by omega) rfl
     rw[show rotr x15 7^^^rotr x15 18^^^(x15>>>3)=s0 from hs0.symm] at e2
     rw[show rotr x2 17^^^rotr x2 19^^^(x2>>>10)=s1 from hs1.symm] at e4
     clear hs0 hs1
     have e2':bits .xor .u32 (q0:Int) ((x15:Int)/8)=(s0:Int):=e2
     have e4':bits .xor .u32 (q1:Int) ((x2:Int)/1024)=(s1:Int):=e4
     have ey:((s1:Int)+x7+s0+x16)%4294967296=(y:Int):=by rw[hy2];simp
     clear e2 e4 hy2
     go_wp2
     go_quiet (first|(go_at_call_of 205 (Value.int .i64 7);exact Calls.quiet_of_same (t7 _))|(go_at_call_of 205 (Value.int .i64 18);exact Calls.quiet_of_same (t18 _)))
     go_wp2
     go_quiet (first|(go_at_call_of 205 (Value.int .i64 17);exact(t17 _).mono λ_ _ h=>⟨h.1,_,h.2⟩)|(go_at_call_of 205 (Value.int .i64 19);exact(t19 _).mono λ_ _ h=>⟨h.1,_,h.2⟩))
     go_wp2
     clear t7 t18 t17 t19 e1 e2' e3 e4' c15 c2 k15 k2
     go_region
     go_wp2
     go_roundw
     case rel=>exact⟨m+1,by omega,by go_num,by rw[show m+1+16=m+16+1 from by omega];exact HS.out _⟩
     case measure=>simp[intOf];omega
    ·obtain rfl:m=48:=by omega
     obtain⟨C,hC⟩:∃ C,C=((wl bs 64).map wcell).toArray:=⟨_,rfl⟩
     have hrow:wr.heap[w.heap.size+1]?=some (.cells C 266 (0,0)):=by rw[hs2.row,hC];simp
     have hsz:C.size=64:=by rw[hC];simp[hwl.out]
     have hone:C.all (·.oneCell')=true:=by rw[hC];exact words_one _
     have hld:=loadAt_row (P:=Tryz.prog) wr _ 266 266 C (0,0) _ hrow Tryz.underlying266 rfl (by rw[hsz];kernel_rfl)
     have hst:=storeAt_row (P:=Tryz.prog) wr w.heap.size 266 266 _ C hs2.res (by rw[hsz];kernel_rfl) (by rw[hsz];simp) hone
     have hres:(wr.setRow w.heap.size C).heap[w.heap.size]?=some (.cells C 266 (0,0)):=setRow_heap wr _ _ C 266 _ hs2.res
     have hbel:=below_setRow hs2.bel (Nat.le_refl _) C
     have HLD:Hid ((Instr.loadAt 266 (.pointer (some ⟨w.heap.size+1,0,none⟩))).run Tryz.prog wr=.ok (.agg C) wr):=hld
     have HST:Hid ((Instr.storeAt 266 (.pointer (some ⟨w.heap.size,0,none⟩)) (.agg C)).run Tryz.prog wr=.ok () (wr.setRow w.heap.size C)):=hst
     have HC:Hid (C=((wl bs 64).map wcell).toArray):=hC
     have HZ:Hid (C.size=64):=hsz
     clear hs2 hrow hone hC hsz hld hst
     go_wp2_with (first|refine wpList_load_run rfl 266 _ rfl _ _ rfl HLD.out ?_|refine wpList_store_run rfl 266 _ _ rfl _ _ rfl rfl HST.out ?_)
     (try simp only[Exit.inBlock,Exit.then])
     refine bodyPost_ret (results_cell_row rfl _ _ w.heap.size 266 C (0,0) _ rfl hres Tryz.underlying266 rfl (by rw[HZ.out];kernel_rfl)) rfl ?_
     exact⟨by rw[HC.out],hbel⟩
def KTab (w:World):Prop:=∀ t,t<64->w.cell? ⟨2,t,none⟩=some (.int .u32 ((kTab.getD t 0:Nat):Int))
theorem KTab.two {w:World}(h:KTab w):3<=w.heap.size:=by
 have:=World.block_lt_of_cell? w _ (h 0 (by omega))
 exact this
theorem KTab.below {w w':World}(h:KTab w)(hb:Below w.heap.size w w'):KTab w':=λt ht=>by
 rw[hb.cell (p:=⟨2,t,none⟩) (by have:=h.two;show 2<_;omega)];exact h t ht
def S8.cells (s:S8):Array Value:=#[.int .u32 s.a,.int .u32 s.b,.int .u32 s.c,.int .u32 s.d,.int .u32 s.e,.int .u32 s.f,.int .u32 s.g,.int .u32 s.h]
theorem S8.cells_eq (s:S8):s.cells=(s.list.map wcell).toArray:=rfl
theorem run_index_words (P:Program)(T n:Nat)(hT:P.underlying T=some (.array n 62))(hu:P.underlying 62=some (.int .u32))(hc:(P.info? 62).map (·.size)=some 1)(C:List Nat)(k x:Nat)(hx:C[k]?=some x)(hk:k<n)(W:World):
  (Instr.index T (.agg (C.map wcell).toArray) (.int .i64 (k:Int))).run P W=.ok (.int .u32 (x:Int)) W:=by
 cases hq:P.info? 62 with
 | none=>simp[hq] at hc
 | some i =>
   have hs : i.size = 1 := by simpa [hq] using hc
   have hagg : (isAgg 62).run P W = .ok false W := by unfold isAgg; rw [Sem.run_bind, run_underlying hu W]; rfl
   simp [Instr.index, run_underlying hT, asIntOf, go_sem, hk, sizeOf, typeInfo, hq, hs, hx, wcell, hagg]
theorem not32 (x:Nat)(hx:x<4294967296):4294967295^^^x=4294967295-x:=by
 have h1:(BitVec.allOnes 32^^^BitVec.ofNat 32 x).toNat=4294967295^^^x:=by
  rw[BitVec.toNat_xor,BitVec.toNat_allOnes,BitVec.toNat_ofNat,Nat.mod_eq_of_lt (by omega)]
 rw[<-h1,BitVec.allOnes_xor,BitVec.toNat_not,BitVec.toNat_ofNat,Nat.mod_eq_of_lt (by omega)]
theorem ch_bits (e f g:Nat)(he:e<4294967296)(hf:f<4294967296)(hg:g<4294967296):
  bits .xor .u32 (bits .and .u32 (e:Int) (f:Int)) (bits .and .u32 (bits .xor .u32 IntKind.u32.max (e:Int)) (g:Int))=(ch e f g:Int):=by
 rw[show IntKind.u32.max=((4294967295:Nat):Int) from rfl,u32_and_nat e f he hf,bx32 4294967295 e (by omega) he,not32 e he,u32_and_nat _ g (by omega) hg,
  bx32 _ _ (and_lt32 he) (and_lt32 (by omega))]
 rfl
theorem maj_bits (a b c:Nat)(ha:a<4294967296)(hb:b<4294967296)(hc:c<4294967296):
  bits .xor .u32 (bits .xor .u32 (bits .and .u32 (a:Int) (b:Int)) (bits .and .u32 (a:Int) (c:Int))) (bits .and .u32 (b:Int) (c:Int))=(maj a b c:Int):=by
 rw[u32_and_nat a b ha hb,u32_and_nat a c ha hc,u32_and_nat b c hb hc,bx32 _ _ (and_lt32 ha) (and_lt32 ha),bx32 _ _ (xor_lt32 (and_lt32 ha) (and_lt32 ha)) (and_lt32 hb)]
 rfl
structure Mi (w wr:World)(cs:List Nat):Prop where
 row:wr.heap[w.heap.size]?=some (.cells (cs.map wcell).toArray 275 (0,0))
 res:wr.heap[w.heap.size+1]?=some (.cells ((List.replicate 8 0).map wcell).toArray 275 (0,0))
 bel:Below w.heap.size w wr
theorem Mi.drewN {w wr:World}{cs:List Nat}(h:Mi w wr cs)(n:Nat):Mi w (wr.drewN n) cs:=⟨h.row,h.res,below_drewN h.bel n⟩
theorem Mi.on {w wr w2:World}{cs:List Nat}(h:Mi w wr cs)(hb:Below wr.heap.size wr w2):Mi w w2 cs:=by
 have h1:w.heap.size+1<wr.heap.size:=by
  have:=h.res
  exact(Array.getElem?_eq_some_iff.1 this).1
 exact⟨by rw[hb.block _ (by omega)];exact h.row,by rw[hb.block _ h1];exact h.res,h.bel.trans (hb.mono h.bel.size)⟩
theorem Mi.store {w wr:World}{cs:List Nat}(h:Mi w wr cs)(k x:Nat):Mi w (wr.setCell ⟨w.heap.size,k,none⟩ (.int .u32 (x:Int))) (cs.set k x):=
 ⟨setCell_words h.row k x,by rw[heap_setCell_other _ _ _ _ (by simp)];exact h.res,h.bel.setCell (p:=⟨w.heap.size,k,none⟩) (by simp) _⟩
theorem mi_start (w : World)(s : S8): Mi w ((w.alloc (.cells #[.int .u32 s.a, .int .u32 s.b, .int .u32 s.c, .int .u32 s.d, .int .u32 s.e, .int .u32 s.f, .int .u32 s.g, .int .u32 s.h] 275)).alloc
      (.cells #[.int .u32 0, .int .u32 0, .int .u32 0, .int .u32 0, .int .u32 0, .int .u32 0, .int .u32 0, .int .u32 0] 275)) s.list :=
  ⟨heap_alloc2_old w _ _, heap_alloc2_new w _ _, ((Below.refl _ _).alloc (Nat.le_refl _) _).alloc (by simp) _⟩
theorem add_at (s r:S8)(k:Nat)(hk:k<8):∃ p q,s.list[k]?=some p/\r.list[k]?=some q/\(addS s r).list[k]?=some ((p+q)%4294967296):=by
 have hc:k=0\/k=1\/k=2\/k=3\/k=4\/k=5\/k=6\/k=7:=by omega
 rcases hc with rfl|rfl|rfl|rfl|rfl|rfl|rfl|rfl<;>exact⟨_,_,rfl,rfl,rfl⟩
theorem set_mid (A B:List Nat)(k y:Nat)(hA:A[k]?=some y)(hl:A.length=B.length):(A.take k++B.drop k).set k y=A.take (k+1)++B.drop (k+1):=by
 have hk:k<A.length:=(List.getElem?_eq_some_iff.1 hA).1
 have hd:B.drop k=B[k]'(by omega)::B.drop (k+1):=List.drop_eq_getElem_cons (by omega)
 rw[hd,take_snoc A k y hA,List.set_append_right _ _ (by rw[List.length_take];omega),List.length_take,show min k A.length=k by omega,Nat.sub_self,List.set_cons_zero,List.append_assoc]
 rfl
theorem at_mid (A B:List Nat)(k p:Nat)(hB:B[k]?=some p)(hk:k<=A.length):(A.take k++B.drop k)[k]?=some p:=by
 rw[List.getElem?_append_right (by rw[List.length_take];omega)]
 simp[show min k A.length=k by omega,hB]
theorem mix_any (w:World)(s:S8)(hs:s.small)(a:Option Addr)(cap:Nat)(bs:List UInt8)(ha:Sees w a cap bs)(hl:bs.length=64)(hT:KTab w):
  Calls Tryz.prog 199 #[.agg s.cells,.slice a 64 cap] w λe w'=>e=.returned (.agg (mixS s bs).cells)/\Below w.heap.size w w':=by
 have HL:Hid (bs.length=64):=hl
 have hwl:Hid (∀ t,(wl bs t).length=t):=wl_length bs
 have HS:Hid s.small:=hs
 have HT:Hid (KTab w):=hT
 clear hl hs hT
 have h0:=λn=>(mi_start w s).drewN n
 show Calls Tryz.prog 199 #[.agg #[.int .u32 s.a,.int .u32 s.b,.int .u32 s.c,.int .u32 s.d,.int .u32 s.e,.int .u32 s.f,.int .u32 s.g,.int .u32 s.h],.slice a 64 cap] w λe w'=>e=.returned (.agg (mixS s bs).cells)/\Below w.heap.size w w'
 go_enter Tryz.func199,Tryz.ntmps199
 go_wp2
 go_quiet (fail)
 go_wp2
 go_quiet (fail)
 go_wp2_with fail
 refine(spread_any _ a cap bs (ha.below (h0 _).bel) HL.out).mono ?_
 rintro e w1 ⟨rfl,hb1⟩
 have hM:Mi w w1 s.list:=(h0 _).on hb1
 have HK:Hid (KTab w1):=HT.out.below hM.bel
 clear hb1 h0
 obtain⟨C,hC⟩:∃ C,C=wl bs 64:=⟨_,rfl⟩
 rw[<-hC]
 have hCl:C.length=64:=by rw[hC];exact hwl.out 64
 have hCs:Hid (∀ x∈C,x<4294967296):=by rw[hC];exact wl_lt bs 64
 have hmix:Hid (mixS s bs=addS s (rnds C s 64)):=by rw[hC];exact rfl
 have hidx:Hid (∀ (k x:Nat) (W:World),C[k]?=some x->(Instr.index 266 (.agg (C.map wcell).toArray) (.int .i64 (k:Int))).run Tryz.prog W=.ok (.int .u32 (x:Int)) W):=
  λk x W hx=>run_index_words Tryz.prog 266 64 Tryz.underlying266 Tryz.underlying62 (by kernel_rfl) C k x hx (by have:=(List.getElem?_eq_some_iff.1 hx).1;omega) W
 have HCl:Hid (C.length=64):=hCl
 obtain⟨V,hV⟩:∃ V,V=Value.agg (C.map wcell).toArray:=⟨_,rfl⟩
 rw[<-hV] at hidx ⊢
 clear hC hCl hV
 have hr0:rnds C s 0=s:=rfl
 go_wp2
 go_loopw [5,6,7,8,9,10,11,12,37] (λva vb vc vd ve vf vg vh i wr=>∃ t n:Nat,t<=64/\i=.int .i64 t/\wr=w1.drewN n /\
   va=.int .u32 ((rnds C s t).a:Int)/\vb=.int .u32 ((rnds C s t).b:Int)/\vc=.int .u32 ((rnds C s t).c:Int)/\vd=.int .u32 ((rnds C s t).d:Int) /\
   ve=.int .u32 ((rnds C s t).e:Int)/\vf=.int .u32 ((rnds C s t).f:Int)/\vg=.int .u32 ((rnds C s t).g:Int)/\vh=.int .u32 ((rnds C s t).h:Int))
  (λ_ _ _ _ _ _ _ _ i _=>64-(intOf i).toNat)
 case atStart=>exact⟨0,0,by omega,rfl,rfl,rfl,rfl,rfl,rfl,rfl,rfl,rfl,rfl⟩
 case round=>
  obtain⟨t,n,ht,rfl,rfl,rfl,rfl,rfl,rfl,rfl,rfl,rfl,rfl⟩:=hrel
  by_cases hlt:t<64
  ·obtain⟨x,hx⟩:∃ x,C[t]?=some x:=⟨C[t]'(by rw[HCl.out];exact hlt),by simp[HCl.out,hlt]⟩
   have hix:∀ W:World,(Instr.index 266 V (.int .i64 (t:Int))).run Tryz.prog W=.ok (.int .u32 (x:Int)) W:=λW=>hidx.out t x W hx
   have hkc:=HK.out t hlt
   obtain⟨k,hk⟩:∃ k,k=kTab.getD t 0:=⟨_,rfl⟩
   rw[<-hk] at hkc
   have hsm:=rnds_small C HS.out t
   obtain⟨R,hR⟩:∃ R,R=rnds C s t:=⟨_,rfl⟩
   have hnext:Hid (rnds C s (t+1)=rnd k x R):=by
    rw[hR,hk]
    show rnd (kTab.getD t 0) (C.getD t 0) (rnds C s t)=_
    rw[show C.getD t 0=x from by rw[List.getD_eq_getElem?_getD,hx];rfl]
   rw[<-hR] at hsm ⊢
   clear hR hk hx
   obtain⟨ra,rb,rc,rd,re,rf,rg,rh⟩:=R
   obtain⟨ba,bb,bc,bd,be',bf,bg,bh⟩:=hsm
   dsimp only at ba bb bc bd be' bf bg bh ⊢
   obtain⟨q1,hq1⟩:∃ q,q=rot3 re 6 11 25:=⟨_,rfl⟩
   obtain⟨q2,hq2⟩:∃ q,q=rot3 ra 2 13 22:=⟨_,rfl⟩
   obtain⟨c,hc⟩:∃ c,c=ch re rf rg:=⟨_,rfl⟩
   obtain⟨j,hj⟩:∃ c,c=maj ra rb rc:=⟨_,rfl⟩
   obtain⟨x1,hx1⟩:∃ x1,x1=T1 k x ⟨ra,rb,rc,rd,re,rf,rg,rh⟩:=⟨_,rfl⟩
   obtain⟨x2,hx2⟩:∃ x2,x2=T2 ⟨ra,rb,rc,rd,re,rf,rg,rh⟩:=⟨_,rfl⟩
   obtain⟨ne,hne⟩:∃ y,y=(rd+x1)%4294967296:=⟨_,rfl⟩
   obtain⟨na,hna⟩:∃ y,y=(x1+x2)%4294967296:=⟨_,rfl⟩
   have t1:∀ n,Calls Tryz.prog 203 #[.int .u32 (re:Int),.int .i64 6,.int .i64 11,.int .i64 25] (w1.drewN n) λe w'=>e=.returned (.int .u32 (q1:Int))/\w'=w1.drewN n:=λn=>by
    rw[hq1];exact turned_any re 6 11 25 be' (by omega) (by omega) (by omega) _
   have t2:∀ n,Calls Tryz.prog 203 #[.int .u32 (ra:Int),.int .i64 2,.int .i64 13,.int .i64 22] (w1.drewN n) λe w'=>e=.returned (.int .u32 (q2:Int))/\w'=w1.drewN n:=λn=>by
    rw[hq2];exact turned_any ra 2 13 22 ba (by omega) (by omega) (by omega) _
   have e1:bits .xor .u32 (bits .and .u32 (re:Int) (rf:Int)) (bits .and .u32 (bits .xor .u32 IntKind.u32.max (re:Int)) (rg:Int))=(c:Int):=by rw[hc];exact ch_bits re rf rg be' bf bg
   have e2:bits .xor .u32 (bits .xor .u32 (bits .and .u32 (ra:Int) (rb:Int)) (bits .and .u32 (ra:Int) (rc:Int))) (bits .and .u32 (rb:Int) (rc:Int))=(j:Int):=by rw[hj];exact maj_bits ra rb rc ba bb bc
   have e3:((rh:Int)+q1+c+k+x)%4294967296=(x1:Int):=by rw[hx1,hq1,hc];simp[T1]
   have e4:((q2:Int)+j)%4294967296=(x2:Int):=by rw[hx2,hq2,hj];simp[T2]
   have e5:((rd:Int)+x1)%4294967296=(ne:Int):=by rw[hne];simp
   have e6:((x1:Int)+x2)%4294967296=(na:Int):=by rw[hna];simp
   have hnx:Hid (rnds C s (t+1)=⟨na,ra,rb,rc,ne,re,rf,rg⟩):=by
    rw[hnext.out,hna,hne,hx1,hx2];exact rfl
   clear hq1 hq2 hc hj hx1 hx2 hne hna hnext
   go_wp2
   go_quiet (first|(go_at_call 203;exact(t1 _).mono λ_ _ h=>⟨h.1,_,h.2⟩))
   go_wp2_with fail
   refine(t2 _).mono ?_
   rintro e w' ⟨rfl,rfl⟩
   clear t1 t2 e1 e3
   go_wp2
   go_roundw
   case rel=>exact⟨t+1,_,by omega,by go_num,rfl,by rw[hnx.out,e6],by rw[hnx.out],by rw[hnx.out],by rw[hnx.out],by rw[hnx.out,e5],by rw[hnx.out],by rw[hnx.out],by rw[hnx.out]⟩
   case measure=>simp[intOf];omega
  ·obtain rfl:t=64:=by omega
   obtain⟨R,hR⟩:∃ R,R=rnds C s 64:=⟨_,rfl⟩
   rw[<-hR]
   have hmix2:Hid (mixS s bs=addS s R):=by rw[hR];exact hmix.out
   clear hR hr0
   have hidx2:Hid (∀ (k x:Nat) (W:World),R.list[k]?=some x->(Instr.index 275 (.agg #[.int .u32 R.a,.int .u32 R.b,.int .u32 R.c,.int .u32 R.d,.int .u32 R.e,.int .u32 R.f,.int .u32 R.g,.int .u32 R.h]) (.int .i64 (k:Int))).run Tryz.prog W=.ok (.int .u32 (x:Int)) W):=
    λk x W hx=>run_index_words Tryz.prog 275 8 Tryz.underlying275 Tryz.underlying62 (by kernel_rfl) R.list k x hx (by have:=(List.getElem?_eq_some_iff.1 hx).1;simpa [S8.list] using this) W
   have hM2:Mi w (w1.drewN n) ((addS s R).list.take 0++s.list.drop 0):=hM.drewN n
   clear hM hidx HCl hCs hmix
   go_wp2
   go_loopw [96] (λi wr=>∃ k:Nat,k<=8/\i=.int .i64 k/\Mi w wr ((addS s R).list.take k++s.list.drop k)) (λi _=>8-(intOf i).toNat)
   case atStart=>exact⟨0,by omega,rfl,hM2⟩
   case round=>
    obtain⟨k,hk,rfl,hM3⟩:=hrel
    clear hM2
    by_cases hlt2:k<8
    ·obtain⟨p,q,hp,hq,hy⟩:=add_at s R k hlt2
     have hix:∀ W:World,(Instr.index 275 (.agg #[.int .u32 R.a,.int .u32 R.b,.int .u32 R.c,.int .u32 R.d,.int .u32 R.e,.int .u32 R.f,.int .u32 R.g,.int .u32 R.h]) (.int .i64 (k:Int))).run Tryz.prog W=.ok (.int .u32 (q:Int)) W:=λW=>hidx2.out k q W hq
     have hcell:wr.cell? ⟨w.heap.size,k,none⟩=some (.int .u32 (p:Int)):=cell_words hM3.row (at_mid _ _ k p hp (by simp[S8.list];omega))
     have hfr:wr.frozen? ⟨w.heap.size,k,none⟩=false:=frozen_of_row wr _ k _ _ hM3.row
     obtain⟨y,hyy⟩:∃ y,y=(p+q)%4294967296:=⟨_,rfl⟩
     have e1:((p:Int)+q)%4294967296=(y:Int):=by rw[hyy];simp
     have hst:=hM3.store k y
     rw[set_mid _ _ k y (by rw[hyy];exact hy) (by simp[S8.list])] at hst
     have HST:Hid (Mi w (wr.setCell ⟨w.heap.size,k,none⟩ (.int .u32 (y:Int))) ((addS s R).list.take (k+1)++s.list.drop (k+1))):=hst
     clear hst hM3 hyy hp hq hy
     go_wp2
     go_roundw
     case rel=>exact⟨k+1,by omega,by go_num,HST.out⟩
     case measure=>simp[intOf];omega
    ·obtain rfl:k=8:=by omega
     have hrow:wr.heap[w.heap.size]?=some (.cells (addS s R).cells 275 (0,0)):=by rw[hM3.row];rfl
     have hld:=loadAt_row (P:=Tryz.prog) wr _ 275 275 (addS s R).cells (0,0) _ hrow Tryz.underlying275 rfl (by kernel_rfl)
     have hst:=storeAt_row (P:=Tryz.prog) wr (w.heap.size+1) 275 275 _ (addS s R).cells hM3.res (by kernel_rfl) (by rfl) (by rw[S8.cells_eq];exact words_one _)
     have hres:(wr.setRow (w.heap.size+1) (addS s R).cells).heap[w.heap.size+1]?=some (.cells (addS s R).cells 275 (0,0)):=setRow_heap wr _ _ _ 275 _ hM3.res
     have hbel:=below_setRow hM3.bel (g:=w.heap.size+1) (by omega) (addS s R).cells
     obtain⟨D,hD⟩:∃ D,D=(addS s R).cells:=⟨_,rfl⟩
     rw[<-hD] at hld hst hres hbel
     have HLD:Hid ((Instr.loadAt 275 (.pointer (some ⟨w.heap.size,0,none⟩))).run Tryz.prog wr=.ok (.agg D) wr):=hld
     have HST:Hid ((Instr.storeAt 275 (.pointer (some ⟨w.heap.size+1,0,none⟩)) (.agg D)).run Tryz.prog wr=.ok () (wr.setRow (w.heap.size+1) D)):=hst
     have HD:Hid (D=(addS s R).cells):=hD
     clear hM3 hrow hld hst hD
     go_wp2_with (first|refine wpList_load_run rfl 275 _ rfl _ _ rfl HLD.out ?_|refine wpList_store_run rfl 275 _ _ rfl _ _ rfl rfl HST.out ?_)
     (try simp only[Exit.inBlock,Exit.then])
     refine bodyPost_ret (results_cell_row rfl _ _ (w.heap.size+1) 275 D (0,0) _ rfl hres Tryz.underlying275 rfl (by rw[HD.out];kernel_rfl)) rfl ?_
     exact⟨by rw[HD.out,hmix2.out],hbel⟩
end Go.Proofs.YthogohkieiogiaaGreatDoor
