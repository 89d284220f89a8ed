/-
  The contract of sha.take: the state behind all whole blocks, and what is left.

  The contracts of word.Put and word.PutLong.

  Appending to a slice that has no room; the contracts of slices.Clone and sha.fill.

  What a nil digest, and one that no call made, answers.

  A digest in memory; the contracts of New, Len, Copy, and of what tells whether one stands.

  A slice that reads as long words.
-/
import Derived.Test.YthogohkieiogiaaGreatDoorShaA
import Derived.Test.YthogohkieiogiaaGreatDoorRows
import Derived.Deep.QuietTactic
import Derived.BigQuiet
import Derived.Deep.RegionHeld3
import Derived.Deep.AppendLies
import Derived.Deep.Onto
import Derived.Deep.Upon
import Derived.Lib.SliceRun
import Derived.Laws.Rows
namespace Go.Proofs.YthogohkieiogiaaGreatDoor
set_option maxRecDepth 20000
set_option maxHeartbeats 1600000
open Go.ChangeShapes Go.WideShapes Go.ChangeAt Go.RowKit
theorem Sees.cut {w:World}{b off cap:Nat}{bs:List UInt8}(h:Sees w (some ⟨b,off,none⟩) cap bs)(k:Nat)(hk:k<=bs.length):
  Sees w (if cap=k then some ⟨b,off,none⟩ else some ⟨b,off+k,none⟩) (cap-k) (bs.drop k):=by
 by_cases hc:cap=k
 ·have:=h.fits
  have hn:bs.drop k=[]:=List.drop_eq_nil_of_le (by omega)
  rw[if_pos hc,hn]
  exact⟨by simp,by have:=h.room;omega,by simp,λhne=>absurd rfl hne⟩
 ·rw[if_neg hc];exact h.drop k hk
theorem Mi.cellAt {w wr:World}{R:S8}(h:Mi w wr R.list):wr.cell? ⟨w.heap.size,0,none⟩=some (.int .u32 (R.a:Int))/\wr.cell? ⟨w.heap.size,1,none⟩=some (.int .u32 (R.b:Int)) /\
  wr.cell? ⟨w.heap.size,2,none⟩=some (.int .u32 (R.c:Int))/\wr.cell? ⟨w.heap.size,3,none⟩=some (.int .u32 (R.d:Int))/\wr.cell? ⟨w.heap.size,4,none⟩=some (.int .u32 (R.e:Int)) /\
  wr.cell? ⟨w.heap.size,5,none⟩=some (.int .u32 (R.f:Int))/\wr.cell? ⟨w.heap.size,6,none⟩=some (.int .u32 (R.g:Int))/\wr.cell? ⟨w.heap.size,7,none⟩=some (.int .u32 (R.h:Int)):=
 ⟨cell_words h.row rfl,cell_words h.row rfl,cell_words h.row rfl,cell_words h.row rfl,cell_words h.row rfl,cell_words h.row rfl,cell_words h.row rfl,cell_words h.row rfl⟩
theorem Mi.setAll {w wr:World}{R:S8}(h:Mi w wr R.list)(T:S8):Mi w (((((((((wr.setCell ⟨w.heap.size,0,none⟩ (.int .u32 (T.a:Int))).setCell ⟨w.heap.size,1,none⟩ (.int .u32 (T.b:Int))).setCell ⟨w.heap.size,2,none⟩ (.int .u32 (T.c:Int))).setCell ⟨w.heap.size,3,none⟩ (.int .u32 (T.d:Int))).setCell ⟨w.heap.size,4,none⟩ (.int .u32 (T.e:Int))).setCell ⟨w.heap.size,5,none⟩ (.int .u32 (T.f:Int))).setCell ⟨w.heap.size,6,none⟩ (.int .u32 (T.g:Int)))).setCell ⟨w.heap.size,7,none⟩ (.int .u32 (T.h:Int))) T.list:=
 (((((((h.store 0 T.a).store 1 T.b).store 2 T.c).store 3 T.d).store 4 T.e).store 5 T.f).store 6 T.g).store 7 T.h
theorem take_any (w:World)(s:S8)(hs:s.small)(a:Option Addr)(cap:Nat)(bs:List UInt8)(ha:Sees w a cap bs)(hT:KTab w):
  Calls Tryz.prog 200 #[.agg s.cells,.slice a bs.length cap] w λe w'=>∃ d cd l,Hid (l=bs.drop (64*(bs.length/64)))/\e=.returned (.tuple #[.agg (runB s bs (bs.length/64)).cells,.slice d l.length cd])/\Sees w' d cd l/\Below w.heap.size w w':=by
 have HS:Hid s.small:=hs
 have HT:Hid (KTab w):=hT
 have hroom:=ha.room
 unfold maxLen at hroom
 have hfits:=ha.fits
 clear hs hT
 have h0:Mi w _ s.list:=mi_start w s
 show Calls Tryz.prog 200 #[.agg #[.int .u32 s.a,.int .u32 s.b,.int .u32 s.c,.int .u32 s.d,.int .u32 s.e,.int .u32 s.f,.int .u32 s.g,.int .u32 s.h],.slice a bs.length cap] w _
 go_enter Tryz.func200,Tryz.ntmps200
 go_wp2
 go_loopw [1] (λv wr=>∃ (k:Nat) (d:Option Addr) (c:Nat) (l:List UInt8),64*k<=bs.length/\Hid (l=bs.drop (64*k))/\v=.slice d l.length c/\Sees w d c l/\Mi w wr (runB s bs k).list)
  (λv _=>match v with | .slice _ n _=>n|_=>0)
 case atStart=>exact⟨0,a,cap,bs,by omega,rfl,rfl,ha,h0⟩
 case round=>
  obtain⟨k,d,c,l,hk,hl,rfl,hse,hM⟩:=hrel
  clear h0
  have hll:Hid (l.length=bs.length-64*k):=by rw[hl.out];exact List.length_drop
  by_cases hlt:64<=l.length
  ·obtain⟨b,off,rfl,_⟩:=hse.at' (by rintro rfl;simp at hlt)
   have hse64:=hse.take 64
   have h64:Hid ((l.take 64).length=64):=by rw[List.length_take];exact Nat.min_eq_left hlt
   obtain⟨R,hR⟩:∃ R,R=runB s bs k:=⟨_,rfl⟩
   have hRs:Hid R.small:=by rw[hR];exact runB_small HS.out bs k
   rw[<-hR] at hM
   obtain⟨T,hTT⟩:∃ T,T=mixS R (l.take 64):=⟨_,rfl⟩
   have hnext:Hid (runB s bs (k+1)=T):=by rw[hTT,hR,hl.out];exact rfl
   have HTT:Hid (T=mixS R (l.take 64)):=hTT
   obtain⟨c0,c1,c2,c3,c4,c5,c6,c7⟩:=hM.cellAt
   have hMD:Hid (∀ n,Mi w (wr.drewN n) R.list):=λn=>hM.drewN n
   have hfc:=hse.fits
   have hrc:=hse.room
   unfold maxLen at hrc
   have hdrop:=hse.cut 64 hlt
   have hcall:Hid (∀ n,Calls Tryz.prog 199 #[.agg #[.int .u32 R.a,.int .u32 R.b,.int .u32 R.c,.int .u32 R.d,.int .u32 R.e,.int .u32 R.f,.int .u32 R.g,.int .u32 R.h],.slice (some ⟨b,off,none⟩) 64 c] (wr.drewN n)
     λe w'=>e=.returned (.agg #[.int .u32 T.a,.int .u32 T.b,.int .u32 T.c,.int .u32 T.d,.int .u32 T.e,.int .u32 T.f,.int .u32 T.g,.int .u32 T.h])/\Mi w w' R.list):=λn=>by
    refine(mix_any (wr.drewN n) R hRs.out (some ⟨b,off,none⟩) c (l.take 64) (hse64.below (hM.drewN n).bel) h64.out (HT.out.below (hM.drewN n).bel)).mono ?_
    rintro e w2 ⟨rfl,hb2⟩
    exact⟨by rw[hTT];rfl,(hM.drewN n).on hb2⟩
   clear hR hTT hM hse64 HTT
   go_wp2
   go_region_with (go_at_call 199;refine(hcall.out 1).mono ?_;rintro e w2 ⟨rfl,hM2⟩;obtain⟨d0,d1,d2,d3,d4,d5,d6,d7⟩:=hM2.cellAt;have f0:=λk=>frozen_of_row w2 w.heap.size k _ _ hM2.row)
   all_goals
    have hM3:=hM2.setAll T
    have HM3:Hid (Mi w _ T.list):=hM3
    clear hM2 hM3 d0 d1 d2 d3 d4 d5 d6 d7 f0 c0 c1 c2 c3 c4 c5 c6 c7 hMD hcall
    go_wp2
    go_roundw
    case rel=>
     have hd64:l.drop 64=bs.drop (64*(k+1)):=by rw[hl.out,List.drop_drop,Nat.mul_add]
     refine⟨k+1,_,_,l.drop 64,by have:=hll.out;omega,hd64,?_,hdrop,by rw[hnext.out];exact HM3.out⟩
     rw[List.length_drop]
    case measure=>simp;omega
  ·have hq:bs.length/64=k:=by have:=hll.out;omega
   have hrow:wr.heap[w.heap.size]?=some (.cells (runB s bs k).cells 275 (0,0)):=by rw[hM.row];rfl
   have hld:=loadAt_row (P:=Tryz.prog) wr _ 275 275 (runB s bs k).cells (0,0) _ hrow Tryz.underlying275 rfl (by kernel_rfl)
   have hst:=storeAt_row (P:=Tryz.prog) wr (w.heap.size+1) 275 275 _ (runB s bs k).cells hM.res (by kernel_rfl) (by rfl) (by rw[S8.cells_eq];exact words_one _)
   have hres:(wr.setRow (w.heap.size+1) (runB s bs k).cells).heap[w.heap.size+1]?=some (.cells (runB s bs k).cells 275 (0,0)):=setRow_heap wr _ _ _ 275 _ hM.res
   have hbel:=below_setRow hM.bel (g:=w.heap.size+1) (by omega) (runB s bs k).cells
   obtain⟨D,hD⟩:∃ D,D=(runB s bs k).cells:=⟨_,rfl⟩
   rw[<-hD] at hld hst hres hbel
   have HLD:Hid ((Instr.loadAt 275 (.pointer (some ⟨w.heap.size,0,none⟩))).run Tryz.prog wr=.ok (.agg D) wr):=hld
   have HST:Hid ((Instr.storeAt 275 (.pointer (some ⟨w.heap.size+1,0,none⟩)) (.agg D)).run Tryz.prog wr=.ok () (wr.setRow (w.heap.size+1) D)):=hst
   have HD:Hid (D=(runB s bs k).cells):=hD
   have HQ:Hid (bs.length/64=k):=hq
   clear hM hrow hld hst hD hq
   go_wp2_with (first|refine wpList_load_run rfl 275 _ rfl _ _ rfl HLD.out ?_|refine wpList_store_run rfl 275 _ _ rfl _ _ rfl rfl HST.out ?_)
   (try simp only[Exit.inBlock,Exit.then])
   refine bodyPost_ret (results_cell_tmp rfl _ _ (w.heap.size+1) 275 D (0,0) _ rfl hres Tryz.underlying275 rfl (by rw[HD.out];kernel_rfl)) rfl ?_
   exact⟨d,c,l,by rw[HQ.out];exact hl,by rw[HD.out,HQ.out];rfl,hse.below hbel,hbel⟩
structure Words (w:World)(a:Option Addr)(cap:Nat)(l:List Nat):Prop where
 fits:l.length<=cap
 room:cap<=maxLen
 small:∀ x∈l,x<4294967296
 at':l≠[]->∃ b off,a=some ⟨b,off,none⟩/\∀ (i x:Nat),l[i]?=some x->w.cell? ⟨b,off+i,none⟩=some (.int .u32 (x:Int))
theorem Words.get {w:World}{a:Option Addr}{cap:Nat}{l:List Nat}(h:Words w a cap l){k x:Nat}(hx:l[k]?=some x):
  ∃ b off,a=some ⟨b,off,none⟩/\w.cell? ⟨b,off+k,none⟩=some (.int .u32 (x:Int)):=by
 obtain⟨b,off,ha,hc⟩:=h.at' (by rintro rfl;simp at hx)
 exact⟨b,off,ha,hc k x hx⟩
theorem Words.below {w w':World}{a:Option Addr}{cap:Nat}{l:List Nat}(h:Words w a cap l)(hb:Below w.heap.size w w'):Words w' a cap l:=
 ⟨h.fits, h.room, h.small, fun hne => by
   obtain ⟨b, off, ha, hc⟩ := h.at' hne
   refine ⟨b, off, ha, fun i x hx => ?_⟩
   have h1 := hc i x hx
   rw [hb.cell (p := ⟨b, off + i, none⟩) (World.block_lt_of_cell? w _ h1), h1]⟩
theorem Words.lit (w:World)(t:TypeId)(l:List Nat)(hl:l.length<=100)(hs:∀ x∈l,x<4294967296):
  Words (w.alloc (.cells (l.map λx:Nat=>Value.int .u32 (x:Int)).toArray t)) (some ⟨w.heap.size,0,none⟩) l.length l:=
 ⟨Nat.le_refl _, by unfold maxLen; omega, hs, fun _ => ⟨w.heap.size, 0, rfl, fun i x hx => by
   have h := World.news_of_block (w := w.alloc (.cells (l.map fun x : Nat => Value.int .u32 (x : Int)).toArray t)) (cs := (l.map fun x : Nat => Value.int .u32 (x : Int)).toArray) (t := t) (fr := (0, 0)) (heap_alloc_new w _) i (.int .u32 (x : Int)) (by simp [hx])
   rw [Addr.add_lit] at h
   exact h⟩⟩
theorem cells_w4 (x:Nat)(h:x<4294967296):(w4 x).map cellOf=[.int .u8 ((x:Int)/16777216),.int .u8 ((x:Int)/65536%256),.int .u8 ((x:Int)/256%256),.int .u8 ((x:Int)%256)]:=by
 have h1:(x:Int)/16777216=((x/16777216%256:Nat):Int):=by omega
 simp only[w4,List.map_cons,List.map_nil,cellOf,UInt8.toNat_ofNat',h1]
 simp
theorem put_own (w:World)(a c:Option Addr)(ca cc:Nat)(bs:List UInt8)(l:List Nat)(ha:Sees w a ca bs)(hc:Words w c cc l)(hr:bs.length<=140737488353000)(hl:l.length<=100):
  Calls Tryz.prog 188 #[.slice a bs.length ca,.slice c l.length cc] w λe w'=>∃ d cd r,Hid (r=bs++w4s l)/\e=.returned (.slice d r.length cd)/\Sees w' d cd r/\Below w.heap.size w w'/\w'.ownsRow w.heap.size 5 1 (.slice d r.length cd) r.length (r.map cellOf):=by
 obtain⟨i5,hi,hz0,hz1,hz2⟩:=info_parts Tryz.info5
 go_enter Tryz.func188,Tryz.ntmps188
 go_wp2_with (at_make;refine wpList_make_own _ rfl _ _ 22 rfl w.heap.size 5 i5 (.int .u8 0) 1 Tryz.underlying22 hi hz0 hz1 .i64 .i64 _ (bs.length+4*l.length) rfl rfl ?bc ?b2 ?b3 ?b4 ?_)
 case bc=>omega
 case b2=>rw[hz2];omega
 case b3=>unfold maxLen;omega
 case b4=>exact Nat.le_refl _
 intro w1 hown hgrow
 have hbel:Below w.heap.size w w1:=(Below.refl _ _).grown hgrow (Nat.le_refl _) (by intro k h;cases h)
 clear hgrow
 have ha1:=ha.below hbel
 go_wp2_with (at_builtin;refine wpList_append_fits_any _ rfl _ _ 22 rfl w.heap.size 5 i5 1 Tryz.underlying22 hi hz1 w.heap.size 0 (bs.length+4*l.length) [] rfl hown a bs.length ca (bs.map cellOf) rfl ?d1 ?d2 ?d3 ?d4 ?d5 ?_)
 case d1=>simp
 case d2=>intro h;have:=ha.bare h;have:=ha.fits;omega
 case d3=>exact ha1.news
 case d4=>exact bytes_oneCell bs
 case d5=>omega
 intro w2 hown2 hgrow2
 have hbel2:Below w.heap.size w w2:=hbel.grown hgrow2 hbel.size (by intro k h;cases h;exact Nat.le_refl _)
 clear hgrow2 hown ha1
 go_wp2
 go_loopw [5,20] (λv i wr=>∃ k:Nat,k<=l.length/\i=.int .i64 k/\v=.slice (some ⟨w.heap.size,0,none⟩) (bs.length+4*k) (bs.length+4*l.length) /\
   wr.ownsRow w.heap.size 5 1 (.slice (some ⟨w.heap.size,0,none⟩) (bs.length+4*k) (bs.length+4*l.length)) (bs.length+4*k) ((bs++w4s (l.take k)).map cellOf)/\Below w.heap.size w wr)
  (λ_ i _=>l.length-(intOf i).toNat)
 case atStart=>exact⟨0,Nat.zero_le _,rfl,rfl,by simpa [w4s] using hown2,hbel2⟩
 case round=>
  obtain⟨k,hk,rfl,rfl,ho,hbl⟩:=hrel
  clear hown2 hbel2
  by_cases hlt:k<l.length
  ·obtain⟨x,hx⟩:∃ x,l[k]?=some x:=⟨l[k],by simp[hlt]⟩
   obtain⟨b1,o1,rfl,hc1⟩:=(hc.below hbl).get hx
   have hxs:=hc.small x (List.mem_of_getElem? hx)
   have HS:Hid ((bs++w4s (l.take (k+1))).map cellOf=(bs++w4s (l.take k)).map cellOf++(w4 x).map cellOf):=by
    rw[take_snoc l k x hx,w4s_snoc,<-List.append_assoc,List.map_append]
    exact rfl
   have hsz:=hbl.size
   clear hx
   go_wp2_with (at_builtin;refine wpList_append_fits _ rfl _ _ 22 rfl w.heap.size 5 i5 1 Tryz.underlying22 hi hz1 w.heap.size (bs.length+4*k) (bs.length+4*l.length) _ rfl (ho.alloc _) ⟨wr.heap.size,0,none⟩ 4 4 ((w4 x).map cellOf) rfl ?f1 ?f2 ?f3 ?f4 ?_)
   case f1=>rfl
   case f2=>rw[cells_w4 x hxs];exact World.news_of_block (heap_alloc_new wr _)
   case f3=>exact bytes_oneCell _
   case f4=>omega
   intro w3 ho3 hg3
   have hbl3:Below w.heap.size w w3:=(hbl.alloc hsz _).grown hg3 (by simp;omega) (by intro k h;cases h;exact Nat.le_refl _)
   have ho4:w3.ownsRow w.heap.size 5 1 (.slice (some ⟨w.heap.size,0,none⟩) (bs.length+4*k+4) (bs.length+4*l.length)) (bs.length+4*k+4) ((bs++w4s (l.take (k+1))).map cellOf):=by
    rw[HS.out];simpa using ho3
   clear hg3 ho ho3
   go_wp2
   go_roundw
   case rel=>exact⟨k+1,by omega,by go_num,by rw[Nat.mul_add,Nat.add_assoc],by rw[Nat.mul_add,<-Nat.add_assoc];exact ho4,hbl3⟩
   case measure=>simp[intOf];omega
  ·obtain rfl:k=l.length:=by omega
   rw[List.take_length] at ho
   obtain⟨r,hr'⟩:∃ r,r=bs++w4s l:=⟨_,rfl⟩
   rw[<-hr'] at ho
   have HR:Hid (r=bs++w4s l):=hr'
   clear hr'
   obtain⟨d,cd,hv,hs⟩:=Sees.of_own ho
   have hn:bs.length+4*l.length=r.length:=by have:=ho.1;simp at this;omega
   rw[hv,hn] at ho
   rw[hv]
   clear hn
   go_wp2
   go_ret
   exact⟨d,cd,r,HR,rfl,hs,hbl,ho⟩
theorem put_any (w:World)(a c:Option Addr)(ca cc:Nat)(bs:List UInt8)(l:List Nat)(ha:Sees w a ca bs)(hc:Words w c cc l)(hr:bs.length<=140737488353000)(hl:l.length<=100):
  Calls Tryz.prog 188 #[.slice a bs.length ca,.slice c l.length cc] w λe w'=>∃ d cd r,Hid (r=bs++w4s l)/\e=.returned (.slice d r.length cd)/\Sees w' d cd r/\Below w.heap.size w w':=
 (put_own w a c ca cc bs l ha hc hr hl).mono λ_ _ ⟨d,cd,r,h1,h2,h3,h4,_⟩=>⟨d,cd,r,h1,h2,h3,h4⟩
theorem putlong_any (w:World)(a:Option Addr)(ca:Nat)(bs:List UInt8)(n:Nat)(ha:Sees w a ca bs)(hr:bs.length<=140737488353000)(hn:n<18446744073709551616):
  Calls Tryz.prog 168 #[.slice a bs.length ca,.int .u64 n] w λe w'=>∃ d cd r,Hid (r=bs++w4s [n/4294967296,n%4294967296])/\e=.returned (.slice d r.length cd)/\Sees w' d cd r/\Below w.heap.size w w':=by
 have hW:=Words.lit w 62 [n/4294967296,n%4294967296] (by simp) (by simp;omega)
 have hb:Below w.heap.size w (w.alloc (.cells #[.int .u32 ((n/4294967296:Nat):Int),.int .u32 ((n%4294967296:Nat):Int)] 62)):=(Below.refl _ _).alloc (Nat.le_refl _) _
 have ha1:=ha.below hb
 have hn2:n/4294967296<4294967296:=by omega
 go_enter Tryz.func168,Tryz.ntmps168
 go_wp2_with fail
 refine(put_any _ a _ ca 2 bs [n/4294967296,n%4294967296] ha1 hW hr (by simp)).mono ?_
 rintro e w' ⟨d,cd,r,HR,rfl,hs,hbl⟩
 go_wp2
 go_ret
 exact⟨d,cd,r,HR,rfl,hs,hb.trans (hbl.mono (by simp))⟩
theorem append_full (w:World)(a x:Option Addr)(cx:Nat)(bs cs:List UInt8)(ha:Sees w a bs.length bs)(hx:Sees w x cx cs)(hb:bs.length+cs.length<=140737488355328):
  ∃ d cd w', (Builtin.append_ #[22, 22] 22 #[.slice a bs.length bs.length, .slice x cs.length cx]).run Tryz.prog w = .ok (.slice d (bs.length + cs.length) cd) w' ∧ Sees w' d cd (bs ++ cs) ∧ Below w.heap.size w w' ∧
    (0 < cs.length → w'.ownsRow w.heap.size 5 1 (.slice d (bs.length + cs.length) cd) (bs.length + cs.length) ((bs ++ cs).map cellOf)) := by
 obtain⟨i5,hi,hz0,hz1,hz2⟩:=info_parts Tryz.info5
 by_cases h0:cs=[]
 ·subst h0
  have hs:=hx.src
  have:=run_append_nothing (P:=Tryz.prog) w 22 22 22 5 i5 Tryz.underlying22 hi a bs.length bs.length (Nat.le_refl _) (.slice x 0 cx) (by rw[hz1];exact hs)
  exact⟨a,bs.length,w,this,by simpa using ha,Below.refl _ _,λh=>by simp at h⟩
 ·have hc:0<cs.length:=List.length_pos_iff.2 h0
  obtain⟨ad,rfl⟩:∃ ad,x=some ad:=by
   obtain⟨b,off,h,_⟩:=hx.at' h0
   exact⟨_,h⟩
  have key:∃ v w',(Builtin.append_ #[22,22] 22 #[.slice a bs.length bs.length,.slice (some ad) cs.length cx]).run Tryz.prog w=.ok v w' /\
    w'.ownsRow w.heap.size 5 1 v (bs.length+cs.length) ((bs++cs).map cellOf)/\w.grownBy w' none:=by
   cases a with
   | none =>
     have h1 := ha.bare rfl
     have : bs = [] := List.eq_nil_of_length_eq_zero h1
     subst this
     obtain ⟨v, w', hrun, ho, hg, _⟩ := run_append_own (P := Tryz.prog) w w.heap.size 22 22 5 i5 (.int .u8 0) 1 1 Tryz.underlying22 hi hz0 hz1 hz2 rfl (by omega) (.slice none 0 0) 0 [] (World.ownsRow_nil _ _ _ _) ad cs.length cx (cs.map cellOf) (by simp) (hx.news ad rfl) (bytes_oneCell cs) (by unfold maxLen; simp at hb; omega) (by simpa using hb) (Nat.le_refl _)
     exact ⟨v, w', hrun, by simpa using ho, hg⟩
   | some b =>
     obtain ⟨v, w', hrun, ho, hg⟩ := run_append_arg_grows (P := Tryz.prog) w 22 22 5 i5 (.int .u8 0) 1 1 Tryz.underlying22 hi hz0 hz1 hz2 rfl (by omega) b bs.length bs.length (bs.map cellOf) (by simp) (ha.news b rfl) ad cs.length cx (cs.map cellOf) (by simp) (hx.news ad rfl) (by omega) (by unfold maxLen; omega) (by omega)
     exact ⟨v, w', hrun, by simpa using ho, hg⟩
  obtain⟨v,w',hrun,ho,hg⟩:=key
  obtain⟨d,cd,rfl,hs⟩:=Sees.of_own ho
  rw[List.length_append] at hrun ho
  exact⟨d,cd,w',hrun,hs,(Below.refl _ _).grown hg (Nat.le_refl _) (by intro k h;cases h),λ_=>ho⟩
theorem clone_any (w:World)(x:Option Addr)(cx:Nat)(cs:List UInt8)(hx:Sees w x cx cs)(hb:cs.length<=140737488355328):
  Calls Tryz.prog 172 #[.slice x cs.length cx] w λe w'=>∃ d cd,e=.returned (.slice d cs.length cd)/\Sees w' d cd cs/\Below w.heap.size w w':=by
 cases x with
 | none =>
   have h0 := hx.bare rfl
   have h1 := hx.fits
   have : cs = [] := List.eq_nil_of_length_eq_zero (by omega)
   subst this
   subst h0
   have hq := Lib.run_eql_slice_nil (P := Tryz.prog) w 22 5 none 0 0 0 0 Tryz.underlying22
   go_enter Tryz.func172, Tryz.ntmps172
   go_wp2
   go_ret
   exact ⟨none, 0, rfl, Sees.nil' w, Below.refl _ _⟩
 | some ad =>
   have hb0 : Below w.heap.size w (w.alloc (.cells #[] 5)) := (Below.refl _ _).alloc (Nat.le_refl _) _
   have hx1 := hx.below hb0
   obtain ⟨d, cd, w', hrun, hs, hbl, _⟩ := append_full (w.alloc (.cells #[] 5)) (some ⟨w.heap.size, 0, none⟩) (some ad) cx [] cs ⟨by simp, by simp, by simp, fun h => absurd rfl h⟩ hx1 (by simpa using hb)
   have HR : Hid ((Builtin.append_ #[22, 22] 22 #[.slice (some ⟨w.heap.size, 0, none⟩) 0 0, .slice (some ad) cs.length cx]).run Tryz.prog (w.alloc (.cells #[] 5)) = .ok (.slice d cs.length cd) w') := by
     simp only [List.length_nil, Nat.zero_add] at hrun; exact hrun
   have hq := Lib.run_eql_slice_nil (P := Tryz.prog) w 22 5 (some ad) cs.length cx 0 0 Tryz.underlying22
   clear hrun
   go_enter Tryz.func172, Tryz.ntmps172
   go_wp2_with (at_builtin; refine wpList_append_run rfl _ _ 22 rfl _ _ _ rfl rfl HR.out ?_)
   go_ret
   exact ⟨d, cd, rfl, by simpa using hs, hb0.trans (hbl.mono (by simp))⟩
theorem fill_any (w:World)(a:Option Addr)(bs:List UInt8)(size:Nat)(ha:Sees w a bs.length bs)(hb:bs.length<=1048576)(hn:size<=1048576):
  Calls Tryz.prog 201 #[.slice a bs.length bs.length,.int .i64 size] w λe w'=>∃ d cd r,Hid (r=pad bs size)/\e=.returned (.slice d r.length cd)/\Sees w' d cd r/\Below w.heap.size w w':=by
 obtain⟨i5,hi,hz0,hz1,hz2⟩:=info_parts Tryz.info5
 have hb0:Below w.heap.size w (w.alloc (.cells #[.int .u8 128] 5)):=(Below.refl _ _).alloc (Nat.le_refl _) _
 have hsx:Sees (w.alloc (.cells #[.int .u8 128] 5)) (some ⟨w.heap.size,0,none⟩) 1 [0x80]:=
  ⟨by simp, by unfold maxLen; omega, by simp, fun _ => ⟨w.heap.size, 0, rfl, fun i x hx => by
    rw [cell_of_row _ _ (0 + i) _ _ _ (heap_alloc_new w _)]
    have : i = 0 := by have := (List.getElem?_eq_some_iff.1 hx).1; simpa using this
    subst this
    simp at hx
    subst hx
    rfl⟩⟩
 obtain⟨d,cd,w1,hrun,_,hbl,hown⟩:=append_full _ a _ 1 bs [0x80] (ha.below hb0) hsx (by simp;omega)
 have HR:Hid ((Builtin.append_ #[22,22] 22 #[.slice a bs.length bs.length,.slice (some ⟨w.heap.size,0,none⟩) 1 1]).run Tryz.prog (w.alloc (.cells #[.int .u8 128] 5))=.ok (.slice d (bs.length+1) cd) w1):=hrun
 have hb1:Below w.heap.size w w1:=hb0.trans (hbl.mono (by simp))
 have ho1:=hown (by simp)
 clear hrun hown hbl hsx hb0
 go_enter Tryz.func201,Tryz.ntmps201
 go_wp2_with (at_builtin;refine wpList_append_run rfl _ _ 22 rfl _ _ _ rfl rfl HR.out ?_)
 go_loopw [5] (λv wr=>∃ (j:Nat) (d:Option Addr) (cd:Nat),j<=zs bs.length/\v=.slice d (bs.length+1+j) cd/\wr.ownsRow w.heap.size 5 1 (.slice d (bs.length+1+j) cd) (bs.length+1+j) ((bs++[0x80]++List.replicate j 0).map cellOf)/\Below w.heap.size w wr)
  (λv _=>match v with | .slice _ n _=>bs.length+1+zs bs.length-n|_=>0)
 case atStart=>exact⟨0,d,cd,Nat.zero_le _,rfl,by simpa using ho1.mono (by simp),hb1⟩
 case round=>
  obtain⟨j,d,cd,hj,rfl,ho,hbl⟩:=hrel
  clear ho1 hb1 HR
  have hzl:=zs_lt bs.length
  by_cases hlt:j<zs bs.length
  ·have hm:(((bs.length:Int)+1+(j:Int))%64 != 56)=true:=by
    simp only[bne_iff_ne];unfold zs at hlt;omega
   have hsz:=hbl.size
   obtain⟨v,w2,hrun,ho2,hg,_⟩:=run_append_own (P:=Tryz.prog) (wr.alloc (.cells #[.int .u8 0] 5)) w.heap.size 22 22 5 i5 (.int .u8 0) 1 1 Tryz.underlying22 hi hz0 hz1 hz2 rfl (by omega) _ _ _ (ho.alloc _) ⟨wr.heap.size,0,none⟩ 1 1 [.int .u8 0] (by simp) (World.news_of_block (heap_alloc_new wr _)) (by simp[Value.oneCell']) (by unfold maxLen;omega) (by omega) (by simp;omega)
   have ho3:w2.ownsRow w.heap.size 5 1 v (bs.length+1+(j+1)) ((bs++[0x80]++List.replicate (j+1) 0).map cellOf):=by
    rw[List.replicate_succ',<-List.append_assoc,List.map_append];exact ho2
   have hb2:Below w.heap.size w w2:=(hbl.alloc hsz _).grown hg (by simp;omega) (λq h=>(ho.lt _ h).1)
   obtain⟨d2,cd2,rfl,_⟩:=Sees.of_own ho3
   have hlen:(bs++[0x80]++List.replicate (j+1) (0:UInt8)).length=bs.length+1+(j+1):=by simp;omega
   rw[hlen] at hrun ho3
   have HA:Hid ((Builtin.append_ #[22,22] 22 #[.slice d (bs.length+1+j) cd,.slice (some ⟨wr.heap.size,0,none⟩) 1 1]).run Tryz.prog (wr.alloc (.cells #[.int .u8 0] 5))=.ok (.slice d2 (bs.length+1+(j+1)) cd2) w2):=hrun
   clear hrun ho2 hg hlen
   go_wp2_with (at_builtin;refine wpList_append_run rfl _ _ 22 rfl _ _ _ rfl rfl HA.out ?_)
   go_roundw
   case rel=>exact⟨j+1,d2,cd2,by omega,rfl,ho3,hb2⟩
   case measure=>simp;omega
  ·obtain rfl:j=zs bs.length:=by omega
   obtain⟨d2,cd2,hv,hs⟩:=Sees.of_own ho
   obtain⟨r,hr⟩:∃ r,r=bs++[0x80]++List.replicate (zs bs.length) (0:UInt8):=⟨_,rfl⟩
   rw[<-hr] at hs hv
   have hrl:bs.length+1+zs bs.length=r.length:=by rw[hr];simp;omega
   have Hr:Hid (r=bs++[0x80]++List.replicate (zs bs.length) (0:UInt8)):=hr
   have HRL:Hid (bs.length+1+zs bs.length=r.length):=hrl
   rw[hv]
   have hm2:((r.length:Int)%64 != 56)=false:=by
    simp only[bne_eq_false_iff_eq];rw[<-hrl];unfold zs;omega
   clear ho hv hr hrl
   go_wp2_with fail
   have hput:=putlong_any wr d2 cd2 r (8*size) hs (by rw[<-HRL.out];omega) (by omega)
   refine(show Calls _ _ _ _ _ from by simpa using hput).mono ?_
   rintro e w' ⟨d3,cd3,r3,HR3,rfl,hs3,hb3⟩
   go_wp2
   go_ret
   exact⟨d3,cd3,r3,by rw[HR3.out,Hr.out];exact rfl,rfl,hs3,hbl.trans (hb3.mono hbl.size)⟩
structure But (b:Nat)(w w':World):Prop where
 os:w'.os=w.os
 tape:w'.tape=w.tape
 output:w'.output=w.output
 size:w.heap.size<=w'.heap.size
 block:∀ k,k<w.heap.size->k≠b->w'.heap[k]?=w.heap[k]?
theorem But.refl (b:Nat)(w:World):But b w w:=⟨rfl,rfl,rfl,Nat.le_refl _,λ_ _ _=>rfl⟩
theorem But.trans {b:Nat}{w w' w'':World}(h:But b w w')(k:But b w' w''):But b w w'':=
 ⟨k.os.trans h.os,k.tape.trans h.tape,k.output.trans h.output,Nat.le_trans h.size k.size,λi hi hn=>(k.block i (Nat.lt_of_lt_of_le hi h.size) hn).trans (h.block i hi hn)⟩
theorem But.of_below {b:Nat}{w w':World}(h:Below w.heap.size w w'):But b w w':=⟨h.os,h.tape,h.output,h.size,λk hk _=>h.block k hk⟩
theorem But.setCell {b:Nat}{w w':World}(h:But b w w')(i:Nat)(v:Value):But b w (w'.setCell ⟨b,i,none⟩ v):=
 ⟨h.os,h.tape,h.output,by simpa using h.size,λk hk hn=>by rw[heap_setCell_other _ _ _ _ hn];exact h.block k hk hn⟩
theorem But.drewN {b:Nat}{w w':World}(h:But b w w')(n:Nat):But b w (w'.drewN n):=⟨h.os,h.tape,h.output,h.size,h.block⟩
theorem But.below {b:Nat}{w0 w w':World}(h:But b w w')(hb:Below w0.heap.size w0 w)(hn:w0.heap.size<=b):Below w0.heap.size w0 w':=
 ⟨h.os.trans hb.os,h.tape.trans hb.tape,h.output.trans hb.output,Nat.le_trans hb.size h.size,λk hk=>(h.block k (Nat.lt_of_lt_of_le hk hb.size) (by omega)).trans (hb.block k hk)⟩
def NoBytes (R:List Value):Prop:=∀ u∈R,∀ x:UInt8,u≠.int .u8 (x.toNat:Int)
def digL (R:List Value)(n:Nat)(s:S8)(v:Value):List Value:=
 .bool true :: .int .i64 (n:Int) :: .int .u32 (s.a:Int) :: .int .u32 (s.b:Int) :: .int .u32 (s.c:Int) :: .int .u32 (s.d:Int) :: .int .u32 (s.e:Int) :: .int .u32 (s.f:Int) :: .int .u32 (s.g:Int) :: .int .u32 (s.h:Int)::v::R
def ObjAt (R:List Value)(ty:TypeId)(w:World)(b n:Nat)(s:S8)(v:Value):Prop:=
 w.heap[b]?=some (.cells (digL R n s v).toArray ty (0,0))/\NoBytes R
theorem ObjAt.lt {R:List Value}{ty:TypeId}{w:World}{b n:Nat}{s:S8}{v:Value}(h:ObjAt R ty w b n s v):b<w.heap.size:=(Array.getElem?_eq_some_iff.1 h.1).1
theorem ObjAt.cellAt {R:List Value}{ty:TypeId}{w:World}{b n:Nat}{s:S8}{v:Value}(h:ObjAt R ty w b n s v)(i:Nat){u:Value}(hu:(digL R n s v)[i]?=some u):w.cell? ⟨b,i,none⟩=some u:=by
 rw[cell_of_row _ _ i _ _ _ h.1,List.getElem?_toArray];exact hu
theorem ObjAt.made {R:List Value}{ty:TypeId}{w:World}{b n:Nat}{s:S8}{v:Value}(h:ObjAt R ty w b n s v):w.cell? ⟨b,0,none⟩=some (.bool true):=h.cellAt 0 rfl
theorem ObjAt.size {R:List Value}{ty:TypeId}{w:World}{b n:Nat}{s:S8}{v:Value}(h:ObjAt R ty w b n s v):w.cell? ⟨b,1,none⟩=some (.int .i64 (n:Int)):=h.cellAt 1 rfl
theorem ObjAt.left {R:List Value}{ty:TypeId}{w:World}{b n:Nat}{s:S8}{v:Value}(h:ObjAt R ty w b n s v):w.cell? ⟨b,10,none⟩=some v:=h.cellAt 10 rfl
theorem ObjAt.frozen {R:List Value}{ty:TypeId}{w:World}{b n:Nat}{s:S8}{v:Value}(h:ObjAt R ty w b n s v)(k:Nat):w.frozen? ⟨b,k,none⟩=false:=frozen_of_row _ _ k _ _ h.1
theorem ObjAt.keep {R:List Value}{ty:TypeId}{w w':World}{b n:Nat}{s:S8}{v:Value}(h:ObjAt R ty w b n s v)(hb:w'.heap[b]?=w.heap[b]?):ObjAt R ty w' b n s v:=⟨hb.trans h.1,h.2⟩
theorem ObjAt.below {R:List Value}{ty:TypeId}{w w':World}{b n:Nat}{s:S8}{v:Value}(h:ObjAt R ty w b n s v)(hb:Below w.heap.size w w'):ObjAt R ty w' b n s v:=h.keep (hb.block b h.lt)
theorem ObjAt.drewN {R:List Value}{ty:TypeId}{w:World}{b n:Nat}{s:S8}{v:Value}(h:ObjAt R ty w b n s v)(k:Nat):ObjAt R ty (w.drewN k) b n s v:=h
theorem setCell_list {w:World}{b:Nat}{L:List Value}{t:TypeId}(h:w.heap[b]?=some (.cells L.toArray t (0,0)))(i:Nat)(v:Value):
  (w.setCell ⟨b,i,none⟩ v).heap[b]?=some (.cells (L.set i v).toArray t (0,0)):=by
 rw[heap_setCell_same _ _ _ _ _ _ h,List.setIfInBounds_toArray]
theorem ObjAt.setSize {R:List Value}{ty:TypeId}{w:World}{b n:Nat}{s:S8}{v:Value}(h:ObjAt R ty w b n s v)(m:Nat):ObjAt R ty (w.setCell ⟨b,1,none⟩ (.int .i64 (m:Int))) b m s v:=⟨setCell_list h.1 1 _,h.2⟩
theorem ObjAt.setLeft {R:List Value}{ty:TypeId}{w:World}{b n:Nat}{s:S8}{v:Value}(h:ObjAt R ty w b n s v)(u:Value):ObjAt R ty (w.setCell ⟨b,10,none⟩ u) b n s u:=⟨setCell_list h.1 10 _,h.2⟩
theorem ObjAt.stateAt {R:List Value}{ty:TypeId}{w:World}{b n:Nat}{s:S8}{v:Value}(h:ObjAt R ty w b n s v):w.rangeAt b 2 (s.list.map wcell):=λj u hu=>by
 have hj:j<8:=by have:=(List.getElem?_eq_some_iff.1 hu).1;simpa [S8.list] using this
 have hc:j=0\/j=1\/j=2\/j=3\/j=4\/j=5\/j=6\/j=7:=by omega
 rcases hc with rfl|rfl|rfl|rfl|rfl|rfl|rfl|rfl<;>exact h.cellAt _ hu
theorem ObjAt.loads {R:List Value}{ty:TypeId}{w:World}{b n:Nat}{s:S8}{v:Value}(h:ObjAt R ty w b n s v):(Instr.loadAt 275 (.pointer (some ⟨b,2,none⟩))).run Tryz.prog w=.ok (.agg s.cells) w:=
 run_loadAt_mid w b 2 275 (s.list.map wcell) _ h.stateAt Tryz.underlying275 rfl (by kernel_rfl)
theorem ObjAt.stores {R:List Value}{ty:TypeId}{w:World}{b n:Nat}{s:S8}{v:Value}(h:ObjAt R ty w b n s v)(T:S8):
  ∃ w',(Instr.storeAt 275 (.pointer (some ⟨b,2,none⟩)) (.agg T.cells)).run Tryz.prog w=.ok () w'/\ObjAt R ty w' b n T v/\But b w w':=by
 have ht:w.there b 2 T.cells.size:=λj hj=>by
  refine⟨?_,h.frozen _⟩
  have hj:j<8:=hj
  have hc:j=0\/j=1\/j=2\/j=3\/j=4\/j=5\/j=6\/j=7:=by omega
  rcases hc with rfl|rfl|rfl|rfl|rfl|rfl|rfl|rfl<;>(rw[h.cellAt _ rfl];rfl)
 refine⟨_,run_storeAt_mid w b 2 275 T.cells ht (by kernel_rfl) (by rw[S8.cells_eq];exact words_one _),⟨?_,h.2⟩,?_⟩
 ·show ((((((((w.setCell ⟨b,2,none⟩ (.int .u32 (T.a:Int))).setCell ⟨b,3,none⟩ (.int .u32 (T.b:Int))).setCell ⟨b,4,none⟩ (.int .u32 (T.c:Int))).setCell ⟨b,5,none⟩ (.int .u32 (T.d:Int))).setCell ⟨b,6,none⟩ (.int .u32 (T.e:Int))).setCell ⟨b,7,none⟩ (.int .u32 (T.f:Int))).setCell ⟨b,8,none⟩ (.int .u32 (T.g:Int))).setCell ⟨b,9,none⟩ (.int .u32 (T.h:Int))).heap[b]?=_
  have h2:=setCell_list h.1 2 (.int .u32 (T.a:Int))
  have h3:=setCell_list h2 3 (.int .u32 (T.b:Int))
  have h4:=setCell_list h3 4 (.int .u32 (T.c:Int))
  have h5:=setCell_list h4 5 (.int .u32 (T.d:Int))
  have h6:=setCell_list h5 6 (.int .u32 (T.e:Int))
  have h7:=setCell_list h6 7 (.int .u32 (T.f:Int))
  have h8:=setCell_list h7 8 (.int .u32 (T.g:Int))
  exact setCell_list h8 9 (.int .u32 (T.h:Int))
 ·exact((((((((But.refl b w).setCell 2 _).setCell 3 _).setCell 4 _).setCell 5 _).setCell 6 _).setCell 7 _).setCell 8 _).setCell 9 _
theorem Sees.but {R:List Value}{ty:TypeId}{w w':World}{b n:Nat}{s:S8}{v:Value}{a:Option Addr}{cap:Nat}{l:List UInt8}(h:Sees w a cap l)(ho:ObjAt R ty w b n s v)(hv:∀ x:UInt8,v≠.int .u8 (x.toNat:Int))(hb:But b w w'):Sees w' a cap l:=
 ⟨h.fits, h.room, h.bare, fun hne => by
   obtain ⟨g, off, ha, hc⟩ := h.at' hne
   refine ⟨g, off, ha, fun i x hx => ?_⟩
   have h1 := hc i x hx
   have hg : g ≠ b := by
     rintro rfl
     rw [cell_of_row _ _ (off + i) _ _ _ ho.1, List.getElem?_toArray] at h1
     generalize off + i = j at h1
     match j, h1 with
     | 0, h1 => simp [digL] at h1
     | 1, h1 => simp [digL] at h1
     | 2, h1 => simp [digL] at h1
     | 3, h1 => simp [digL] at h1
     | 4, h1 => simp [digL] at h1
     | 5, h1 => simp [digL] at h1
     | 6, h1 => simp [digL] at h1
     | 7, h1 => simp [digL] at h1
     | 8, h1 => simp [digL] at h1
     | 9, h1 => simp [digL] at h1
     | 10, h1 => exact hv x (by simpa [digL] using h1)
     | k + 11, h1 =>
       have h2 : R[k]? = some (.int .u8 (x.toNat : Int)) := h1
       exact ho.2 _ (List.mem_of_getElem? h2) x rfl
   rw [World.cell?_of_block (w := w) (hb.block g (World.block_lt_of_cell? w _ h1) hg), h1]⟩
structure Dig (R:List Value)(ty:TypeId)(w:World)(b:Nat)(bs:List UInt8):Prop where
 len:bs.length<=1048576
 obj:∃ a,ObjAt R ty w b bs.length (stOf bs) (.slice a (leftOf bs).length (leftOf bs).length)/\Sees w a (leftOf bs).length (leftOf bs)
theorem Dig.sees {R:List Value}{ty:TypeId}{w w':World}{b:Nat}{bs:List UInt8}(h:Dig R ty w b bs)(hb:But b w w'){a:Option Addr}{cap:Nat}{l:List UInt8}(hs:Sees w a cap l):Sees w' a cap l:=by
 obtain⟨a2,ho2,_⟩:=h.obj
 exact hs.but ho2 (by intro x;simp) hb
theorem stands_at (w:World)(b o:Nat)(h:w.cell? ⟨b,o,none⟩=some (.bool true)):Calls Tryz.prog 198 #[.pointer (some ⟨b,o,none⟩)] w λe w'=>e=.returned (.bool true)/\w'=w:=by
 go_enter Tryz.func198,Tryz.ntmps198
 go_wp2
 go_ret
 exact⟨rfl,rfl⟩
theorem stands_yes (w:World)(b:Nat)(h:w.cell? ⟨b,0,none⟩=some (.bool true)):Calls Tryz.prog 198 #[.pointer (some ⟨b,0,none⟩)] w λe w'=>e=.returned (.bool true)/\w'=w:=stands_at w b 0 h
def FTab (w:World):Prop:=∀ t,t<8->w.cell? ⟨1,t,none⟩=some (.int .u32 ((start.list.getD t 0:Nat):Int))
theorem FTab.below {w w':World}(h:FTab w)(hb:Below w.heap.size w w'):FTab w':=λt ht=>by
 rw[hb.cell (p:=⟨1,t,none⟩) (World.block_lt_of_cell? w _ (h t ht))];exact h t ht
theorem FTab.loads {w:World}(h:FTab w):(Instr.loadAt 275 (.pointer (some ⟨1,0,none⟩))).run Tryz.prog w=.ok (.agg start.cells) w:=
 run_loadAt_mid w 1 0 275 (start.list.map wcell) _ (λj u hu=>by
  have hj:j<8:=by have:=(List.getElem?_eq_some_iff.1 hu).1;simpa [S8.list] using this
  rw[Nat.zero_add,h j hj]
  rw[List.getElem?_map] at hu
  obtain⟨x,hx,rfl⟩:=Option.map_eq_some_iff.1 hu
  simp[hx,wcell]) Tryz.underlying275 rfl (by kernel_rfl)
theorem new_any (w:World)(hF:FTab w):Calls Tryz.prog 192 #[] w λe w'=>e=.returned (.pointer (some ⟨w.heap.size,0,none⟩))/\Dig [] 277 w' w.heap.size []/\Below w.heap.size w w':=by
 have HL:Hid ((Instr.loadAt 275 (.pointer (some ⟨1,0,none⟩))).run Tryz.prog w=.ok (.agg #[.int .u32 0x6a09e667,.int .u32 0xbb67ae85,.int .u32 0x3c6ef372,.int .u32 0xa54ff53a,.int .u32 0x510e527f,.int .u32 0x9b05688c,.int .u32 0x1f83d9ab,.int .u32 0x5be0cd19]) w):=hF.loads
 clear hF
 go_enter Tryz.func192,Tryz.ntmps192
 go_wp2_with (refine wpList_load_run rfl 275 _ rfl _ _ rfl HL.out ?_)
 go_ret
 have hb:Below w.heap.size w (w.alloc (.cells #[.bool true,.int .i64 0,.int .u32 0x6a09e667,.int .u32 0xbb67ae85,.int .u32 0x3c6ef372,.int .u32 0xa54ff53a,.int .u32 0x510e527f,.int .u32 0x9b05688c,.int .u32 0x1f83d9ab,.int .u32 0x5be0cd19,.slice none 0 0] 277)):=(Below.refl _ _).alloc (Nat.le_refl _) _
 exact⟨rfl,⟨by simp,none,⟨heap_alloc_new w _,λu hu=>by cases hu⟩,Sees.nil' _⟩,hb⟩
theorem copy_at (w:World)(b o:Nat)(bs:List UInt8)(hlen:bs.length<=1048576)(a:Option Addr)(ho:w.rangeAt b o (digL [] bs.length (stOf bs) (.slice a (leftOf bs).length (leftOf bs).length)))(hs:Sees w a (leftOf bs).length (leftOf bs)):Calls Tryz.prog 195 #[.pointer (some ⟨b,o,none⟩)] w λe w'=>e=.returned (.pointer (some ⟨w.heap.size,0,none⟩))/\Dig [] 277 w' w.heap.size bs/\Below w.heap.size w w':=by
 have h1:w.cell? ⟨b,o,none⟩=some (.bool true):=ho 0 _ rfl
 obtain⟨C,hC⟩:∃ C:Array Value,C=#[.bool true,.int .i64 (bs.length:Int),.int .u32 ((stOf bs).a:Int),.int .u32 ((stOf bs).b:Int),.int .u32 ((stOf bs).c:Int),.int .u32 ((stOf bs).d:Int),.int .u32 ((stOf bs).e:Int),.int .u32 ((stOf bs).f:Int),.int .u32 ((stOf bs).g:Int),.int .u32 ((stOf bs).h:Int),.slice a (leftOf bs).length (leftOf bs).length]:=⟨_,rfl⟩
 have hone:C.all (·.oneCell')=true:=by rw[hC];simp[Value.oneCell']
 have hsz:C.size=11:=by rw[hC];rfl
 have HLD:Hid ((Instr.loadAt 277 (.pointer (some ⟨b,o,none⟩))).run Tryz.prog w=.ok (.agg C) w):=by
  rw[hC]
  exact run_loadAt_mid (P:=Tryz.prog) w b o 277 _ _ ho Tryz.underlying277 rfl (by kernel_rfl)
 have HST:Hid ((Instr.storeAt 277 (.pointer (some ⟨w.heap.size,0,none⟩)) (.agg C)).run Tryz.prog (w.alloc (.cells #[.bool false,.int .i64 0,.int .u32 0,.int .u32 0,.int .u32 0,.int .u32 0,.int .u32 0,.int .u32 0,.int .u32 0,.int .u32 0,.slice none 0 0] 277))=.ok () ((w.alloc (.cells #[.bool false,.int .i64 0,.int .u32 0,.int .u32 0,.int .u32 0,.int .u32 0,.int .u32 0,.int .u32 0,.int .u32 0,.int .u32 0,.slice none 0 0] 277)).setRow w.heap.size C)):=
  storeAt_row (P:=Tryz.prog) _ w.heap.size 277 277 _ C (heap_alloc_new w _) (by rw[hsz];kernel_rfl) (by rw[hsz];rfl) hone
 have hb:Below w.heap.size w ((w.alloc (.cells #[.bool false,.int .i64 0,.int .u32 0,.int .u32 0,.int .u32 0,.int .u32 0,.int .u32 0,.int .u32 0,.int .u32 0,.int .u32 0,.slice none 0 0] 277)).setRow w.heap.size C):=below_setRow ((Below.refl _ _).alloc (Nat.le_refl _) _) (Nat.le_refl _) C
 have hnew:((w.alloc (.cells #[.bool false,.int .i64 0,.int .u32 0,.int .u32 0,.int .u32 0,.int .u32 0,.int .u32 0,.int .u32 0,.int .u32 0,.int .u32 0,.slice none 0 0] 277)).setRow w.heap.size C).heap[w.heap.size]?=some (.cells C 277 (0,0)):=setRow_heap _ _ _ C 277 _ (heap_alloc_new w _)
 have HC:Hid (Dig [] 277 ((w.alloc (.cells #[.bool false,.int .i64 0,.int .u32 0,.int .u32 0,.int .u32 0,.int .u32 0,.int .u32 0,.int .u32 0,.int .u32 0,.int .u32 0,.slice none 0 0] 277)).setRow w.heap.size C) w.heap.size bs):=
  ⟨hlen,a,⟨by rw[hnew,hC];rfl,by intro u hu;cases hu⟩,hs.below hb⟩
 clear hC hone hsz hnew ho hs
 go_enter Tryz.func195,Tryz.ntmps195
 go_wp2_with fail
 refine(stands_at w b o h1).mono ?_
 rintro e w' ⟨rfl,rfl⟩
 go_wp2_with (first|refine wpList_load_run rfl 277 _ rfl _ _ rfl HLD.out ?_|refine wpList_store_run rfl 277 _ _ rfl _ _ rfl rfl HST.out ?_)
 go_ret
 exact⟨rfl,HC.out,hb⟩
structure Longs (w:World)(a:Option Addr)(cap:Nat)(l:List Nat):Prop where
 fits:l.length<=cap
 room:cap<=maxLen
 small:∀ x∈l,x<18446744073709551616
 at':l≠[]->∃ b off,a=some ⟨b,off,none⟩/\∀ (i x:Nat),l[i]?=some x->w.cell? ⟨b,off+i,none⟩=some (.int .u64 (x:Int))
theorem Longs.get {w:World}{a:Option Addr}{cap:Nat}{l:List Nat}(h:Longs w a cap l){k x:Nat}(hx:l[k]?=some x):
  ∃ b off,a=some ⟨b,off,none⟩/\w.cell? ⟨b,off+k,none⟩=some (.int .u64 (x:Int)):=by
 obtain⟨b,off,ha,hc⟩:=h.at' (by rintro rfl;simp at hx)
 exact⟨b,off,ha,hc k x hx⟩
theorem Longs.below {w w':World}{a:Option Addr}{cap:Nat}{l:List Nat}(h:Longs w a cap l)(hb:Below w.heap.size w w'):Longs w' a cap l:=
 ⟨h.fits, h.room, h.small, fun hne => by
   obtain ⟨b, off, ha, hc⟩ := h.at' hne
   refine ⟨b, off, ha, fun i x hx => ?_⟩
   have h1 := hc i x hx
   rw [hb.cell (p := ⟨b, off + i, none⟩) (World.block_lt_of_cell? w _ h1), h1]⟩
theorem Longs.lit (w:World)(t:TypeId)(l:List Nat)(hl:l.length<=100)(hs:∀ x∈l,x<18446744073709551616):
  Longs (w.alloc (.cells (l.map λx:Nat=>Value.int .u64 (x:Int)).toArray t)) (some ⟨w.heap.size,0,none⟩) l.length l:=
 ⟨Nat.le_refl _, by unfold maxLen; omega, hs, fun _ => ⟨w.heap.size, 0, rfl, fun i x hx => by
   have h := World.news_of_block (w := w.alloc (.cells (l.map fun x : Nat => Value.int .u64 (x : Int)).toArray t)) (cs := (l.map fun x : Nat => Value.int .u64 (x : Int)).toArray) (t := t) (fr := (0, 0)) (heap_alloc_new w _) i (.int .u64 (x : Int)) (by simp [hx])
   rw [Addr.add_lit] at h
   exact h⟩⟩
end Go.Proofs.YthogohkieiogiaaGreatDoor
