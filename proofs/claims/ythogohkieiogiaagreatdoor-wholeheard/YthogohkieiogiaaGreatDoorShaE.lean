/-
  The contracts of Sum, of sha.Of and of 'awake'.

  The contracts of sha.Of and of 'awake'.

  What the rows' lists give: the two tables hold what the program's text lays.
  The contract of hmac.fit: the key as a block of 64 bytes.

  The contract of the closure that begins a digest with a pad.
-/
import Derived.Test.YthogohkieiogiaaGreatDoorShaC
import Derived.Lib.SlBytesConst
import Derived.Lib.LaidTab
import Derived.LaidSub
import Derived.Laws.CopyRow
namespace Go.Proofs.YthogohkieiogiaaGreatDoor
set_option maxRecDepth 20000
set_option maxHeartbeats 3200000
open Go.ChangeShapes Go.WideShapes Go.ChangeAt Go.RowKit
theorem Words.of_row {w:World}{g:Nat}{l:List Nat}{t:TypeId}{fr:Nat×Nat}(h:w.heap[g]?=some (.cells (l.map wcell).toArray t fr))(hl:l.length<=100)(hs:∀ x∈l,x<4294967296):Words w (some ⟨g,0,none⟩) l.length l:=
 ⟨Nat.le_refl _,by unfold maxLen;omega,hs,λ_=>⟨g,0,rfl,λi x hx=>by rw[Nat.zero_add];exact cell_words h hx⟩⟩
def Zer (w:World)(g:Nat):Prop:=w.heap[g]?=some (.cells #[.int .u32 0,.int .u32 0,.int .u32 0,.int .u32 0,.int .u32 0,.int .u32 0,.int .u32 0,.int .u32 0] 275 (0,0))
theorem Zer.new (w:World):Zer (w.alloc (.cells #[.int .u32 0,.int .u32 0,.int .u32 0,.int .u32 0,.int .u32 0,.int .u32 0,.int .u32 0,.int .u32 0] 275)) w.heap.size:=heap_alloc_new w _
theorem Zer.keep {w w':World}{g:Nat}(h:Zer w g)(hb:Below w.heap.size w w'):Zer w' g:=by
 unfold Zer;rw[hb.block g (Array.getElem?_eq_some_iff.1 h).1];exact h
theorem Zer.cells {w:World}{g:Nat}(h:Zer w g):w.cell? ⟨g,0,none⟩=some (.int .u32 0)/\w.cell? ⟨g,1,none⟩=some (.int .u32 0)/\w.cell? ⟨g,2,none⟩=some (.int .u32 0)/\w.cell? ⟨g,3,none⟩=some (.int .u32 0) /\
  w.cell? ⟨g,4,none⟩=some (.int .u32 0)/\w.cell? ⟨g,5,none⟩=some (.int .u32 0)/\w.cell? ⟨g,6,none⟩=some (.int .u32 0)/\w.cell? ⟨g,7,none⟩=some (.int .u32 0):=
 ⟨cell_of_row _ _ 0 _ _ _ h,cell_of_row _ _ 1 _ _ _ h,cell_of_row _ _ 2 _ _ _ h,cell_of_row _ _ 3 _ _ _ h,cell_of_row _ _ 4 _ _ _ h,cell_of_row _ _ 5 _ _ _ h,cell_of_row _ _ 6 _ _ _ h,cell_of_row _ _ 7 _ _ _ h⟩
theorem Zer.frozen {w:World}{g:Nat}(h:Zer w g)(k:Nat):w.frozen? ⟨g,k,none⟩=false:=frozen_of_row w _ k _ _ h
theorem Zer.sets {w:World}{g:Nat}(h:Zer w g)(T:S8):((((((((w.setCell ⟨g,0,none⟩ (.int .u32 (T.a:Int))).setCell ⟨g,1,none⟩ (.int .u32 (T.b:Int))).setCell ⟨g,2,none⟩ (.int .u32 (T.c:Int))).setCell ⟨g,3,none⟩ (.int .u32 (T.d:Int))).setCell ⟨g,4,none⟩ (.int .u32 (T.e:Int))).setCell ⟨g,5,none⟩ (.int .u32 (T.f:Int))).setCell ⟨g,6,none⟩ (.int .u32 (T.g:Int))).setCell ⟨g,7,none⟩ (.int .u32 (T.h:Int))).heap[g]?=some (.cells (T.list.map wcell).toArray 275 (0,0)):=by
 have h0:w.heap[g]?=some (.cells ((List.replicate 8 0).map wcell).toArray 275 (0,0)):=h
 exact setCell_words (setCell_words (setCell_words (setCell_words (setCell_words (setCell_words (setCell_words (setCell_words h0 0 T.a) 1 T.b) 2 T.c) 3 T.d) 4 T.e) 5 T.f) 6 T.g) 7 T.h
theorem below_sets {B:Nat}{a w:World}(h:Below B a w){g:Nat}(hg:B<=g)(T:S8):Below B a ((((((((w.setCell ⟨g,0,none⟩ (.int .u32 (T.a:Int))).setCell ⟨g,1,none⟩ (.int .u32 (T.b:Int))).setCell ⟨g,2,none⟩ (.int .u32 (T.c:Int))).setCell ⟨g,3,none⟩ (.int .u32 (T.d:Int))).setCell ⟨g,4,none⟩ (.int .u32 (T.e:Int))).setCell ⟨g,5,none⟩ (.int .u32 (T.f:Int))).setCell ⟨g,6,none⟩ (.int .u32 (T.g:Int))).setCell ⟨g,7,none⟩ (.int .u32 (T.h:Int))):=
 (((((((h.setCell (p:=⟨g,0,none⟩) hg _).setCell (p:=⟨g,1,none⟩) hg _).setCell (p:=⟨g,2,none⟩) hg _).setCell (p:=⟨g,3,none⟩) hg _).setCell (p:=⟨g,4,none⟩) hg _).setCell (p:=⟨g,5,none⟩) hg _).setCell (p:=⟨g,6,none⟩) hg _).setCell (p:=⟨g,7,none⟩) hg _
theorem sum_own {R:List Value}{ty:TypeId}(w:World)(b:Nat)(bs:List UInt8)(h:Dig R ty w b bs)(hT:KTab w):
  Calls Tryz.prog 194 #[.pointer (some ⟨b,0,none⟩)] w λe w'=>∃ d cd r,Hid (r=shaL bs)/\e=.returned (.tuple #[.slice d r.length cd,.int .i64 0])/\Sees w' d cd r/\Below w.heap.size w w'/\w'.ownsRow w.heap.size 5 1 (.slice d r.length cd) r.length (r.map cellOf):=by
 obtain⟨a,ho,hs⟩:=h.obj
 have hlen:=h.len
 have h1:=ho.made
 obtain⟨L,hL⟩:∃ L,L=leftOf bs:=⟨_,rfl⟩
 have hLl:L.length<64:=by rw[hL,leftOf_length];omega
 rw[<-hL] at ho hs
 obtain⟨S,hS⟩:∃ S,S=stOf bs:=⟨_,rfl⟩
 rw[<-hS] at ho
 have hSs:Hid S.small:=by rw[hS];exact stOf_small bs
 have HO:Hid (ObjAt R ty w b bs.length S (.slice a L.length L.length)):=ho
 have HT:Hid (KTab w):=hT
 have hend:Hid (w4s (runB S (pad L bs.length) ((pad L bs.length).length/64)).list=shaL bs):=by rw[hS,hL];exact sum_of bs
 have q1:=ho.size
 have q2:w.cell? ⟨b,2,none⟩=some (.int .u32 (S.a:Int)):=ho.cellAt 2 rfl
 have q3:w.cell? ⟨b,3,none⟩=some (.int .u32 (S.b:Int)):=ho.cellAt 3 rfl
 have q4:w.cell? ⟨b,4,none⟩=some (.int .u32 (S.c:Int)):=ho.cellAt 4 rfl
 have q5:w.cell? ⟨b,5,none⟩=some (.int .u32 (S.d:Int)):=ho.cellAt 5 rfl
 have q6:w.cell? ⟨b,6,none⟩=some (.int .u32 (S.e:Int)):=ho.cellAt 6 rfl
 have q7:w.cell? ⟨b,7,none⟩=some (.int .u32 (S.f:Int)):=ho.cellAt 7 rfl
 have q8:w.cell? ⟨b,8,none⟩=some (.int .u32 (S.g:Int)):=ho.cellAt 8 rfl
 have q9:w.cell? ⟨b,9,none⟩=some (.int .u32 (S.h:Int)):=ho.cellAt 9 rfl
 have q10:=ho.left
 have HF:Hid (∀ W,Below w.heap.size w W->Calls Tryz.prog 201 #[.slice a L.length L.length,.int .i64 (bs.length:Int)] W λe w'=>∃ (d:Option Addr) (cd:Nat) (r:List UInt8),Hid (r=pad L bs.length)/\e=.returned (.slice d r.length cd)/\Sees w' d cd r/\Below w.heap.size w w'/\Below W.heap.size W w'):=λW hW=>by
  refine(fill_any W a L bs.length (hs.below hW) (by omega) (by omega)).mono ?_
  rintro e w' ⟨d,cd,r,hr,he,hse,hb⟩
  exact⟨d,cd,r,hr,he,hse,hW.trans (hb.mono hW.size),hb⟩
 have HG:Hid (∀ (w1:World) (d1:Option Addr) (cd1:Nat) (r1:List UInt8),Sees w1 d1 cd1 r1->Below w.heap.size w w1->Hid (r1=pad L bs.length)->Calls Tryz.prog 200 #[.agg #[.int .u32 (S.a:Int),.int .u32 (S.b:Int),.int .u32 (S.c:Int),.int .u32 (S.d:Int),.int .u32 (S.e:Int),.int .u32 (S.f:Int),.int .u32 (S.g:Int),.int .u32 (S.h:Int)],.slice d1 r1.length cd1] w1
   λe w2=>∃ (d2:Option Addr) (n2 cd2:Nat) (T:S8),Hid (w4s T.list=shaL bs)/\Hid T.small/\e=.returned (.tuple #[.agg #[.int .u32 (T.a:Int),.int .u32 (T.b:Int),.int .u32 (T.c:Int),.int .u32 (T.d:Int),.int .u32 (T.e:Int),.int .u32 (T.f:Int),.int .u32 (T.g:Int),.int .u32 (T.h:Int)],.slice d2 n2 cd2])/\Below w.heap.size w w2/\Below w1.heap.size w1 w2):=λw1 d1 cd1 r1 hs1 hb1 hr1=>by
  refine(take_any w1 S hSs.out d1 cd1 r1 hs1 (HT.out.below hb1)).mono ?_
  rintro e w2 ⟨d2,cd2,l2,hl2,rfl,hs2,hb2⟩
  exact⟨d2,_,cd2,runB S r1 (r1.length/64),by rw[hr1.out];exact hend,runB_small hSs.out _ _,rfl,hb1.trans (hb2.mono hb1.size),hb2⟩
 have HB0:Hid (∀ n,Below w.heap.size w (w.drewN n)):=λn=>below_drewN (Below.refl _ _) n
 have HKeep:Hid (∀ w',Below w.heap.size w w'->w'.cell? ⟨b,1,none⟩=some (.int .i64 (bs.length:Int))/\w'.cell? ⟨b,2,none⟩=some (.int .u32 (S.a:Int))/\w'.cell? ⟨b,3,none⟩=some (.int .u32 (S.b:Int))/\w'.cell? ⟨b,4,none⟩=some (.int .u32 (S.c:Int)) /\
   w'.cell? ⟨b,5,none⟩=some (.int .u32 (S.d:Int))/\w'.cell? ⟨b,6,none⟩=some (.int .u32 (S.e:Int))/\w'.cell? ⟨b,7,none⟩=some (.int .u32 (S.f:Int))/\w'.cell? ⟨b,8,none⟩=some (.int .u32 (S.g:Int))/\w'.cell? ⟨b,9,none⟩=some (.int .u32 (S.h:Int))/\w'.cell? ⟨b,10,none⟩=some (.slice a L.length L.length)):=λw' hb=>by
  have hbl:=ho.lt
  refine⟨?_,?_,?_,?_,?_,?_,?_,?_,?_,?_⟩<;>rw[hb.cell (by exact hbl)]<;>assumption
 clear ho hL hS hT h hs
 go_enter Tryz.func194,Tryz.ntmps194
 go_wp2_with fail
 refine(stands_yes w b h1).mono ?_
 rintro e w0 ⟨rfl,hw0⟩
 rw[hw0]
 clear hw0 w0
 go_wp2
 go_region_held3 (λw'=>w'.cell? ⟨b,1,none⟩=some (.int .i64 (bs.length:Int))/\w'.cell? ⟨b,2,none⟩=some (.int .u32 (S.a:Int))/\w'.cell? ⟨b,3,none⟩=some (.int .u32 (S.b:Int))/\w'.cell? ⟨b,4,none⟩=some (.int .u32 (S.c:Int)) /\
   w'.cell? ⟨b,5,none⟩=some (.int .u32 (S.d:Int))/\w'.cell? ⟨b,6,none⟩=some (.int .u32 (S.e:Int))/\w'.cell? ⟨b,7,none⟩=some (.int .u32 (S.f:Int))/\w'.cell? ⟨b,8,none⟩=some (.int .u32 (S.g:Int))/\w'.cell? ⟨b,9,none⟩=some (.int .u32 (S.h:Int))/\w'.cell? ⟨b,10,none⟩=some (.slice a L.length L.length))
  (first
    | go_keep
    | (refine HKeep.out _ ?_; (repeat (first | with_reducible exact hb2 | with_reducible exact hb1 | (with_reducible refine Below.setCell ?_ (by first | exact Nat.le_refl _ | exact hb1.size | exact hb2.size) _) | (with_reducible refine Below.alloc ?_ (by first | exact hb2.size | exact hb1.size) _)))))
  (first
    | (go_at_call 201; refine (HF.out _ ?_).mono ?_; (focus (first | with_reducible exact (Below.refl _ _).drew | exact ((Below.refl _ _).alloc (Nat.le_refl _) _).drew)); rintro e w1 ⟨d1, cd1, r1, hr1, rfl, hs1, hb1, hx1⟩; (first | (have z1 : Zer w1 w.heap.size := Zer.keep (w := (w.alloc (.cells #[.int .u32 0, .int .u32 0, .int .u32 0, .int .u32 0, .int .u32 0, .int .u32 0, .int .u32 0, .int .u32 0] 275)).drew) (Zer.new w) (by with_reducible exact hx1)) | skip))
    | (go_at_call 200; refine (HG.out _ d1 cd1 r1 ?_ ?_ hr1).mono ?_; (focus (first | with_reducible exact hs1 | exact hs1.below ((Below.refl _ _).alloc (Nat.le_refl _) _))); (focus (first | with_reducible exact hb1 | exact hb1.alloc hb1.size _)); rintro e w2 ⟨d2, n2, cd2, T, hT2, hTs, rfl, hb2, hx2⟩; (first | (have z2 : Zer w2 w.heap.size := z1.keep (by with_reducible exact hx2); obtain ⟨y0, y1, y2, y3, y4, y5, y6, y7⟩ := z2.cells; have yf := z2.frozen) | (have z2 : Zer w2 w1.heap.size := (Zer.new w1).keep (by with_reducible exact hx2); obtain ⟨y0, y1, y2, y3, y4, y5, y6, y7⟩ := z2.cells; have yf := z2.frozen) | skip)))
 all_goals
  first
   | (have hW := Words.of_row (z2.sets T) (by simp [S8.list]) (S8.small_list hTs.out)
      have hB3 := below_sets hb2 (g := w.heap.size) (Nat.le_refl _) T
      have hend2 := put_own _ none (some ⟨w.heap.size, 0, none⟩) 0 8 [] T.list (Sees.nil' _) hW (by simp) (by simp [S8.list])
      clear HKeep HF HG HB0 z2 y0 y1 y2 y3 y4 y5 y6 y7 yf hx1 hx2
      go_wp2_with fail
      refine hend2.mono ?_
      rintro e w4 ⟨d, cd, r, HR, rfl, hs4, hb4, ho4⟩
      go_wp2
      go_ret2
      exact ⟨d, cd, r, by rw [HR.out, List.nil_append]; exact hT2, rfl, hs4, hB3.trans (hb4.mono hB3.size), ho4.mono hB3.size⟩)
   | (have hW := Words.of_row (z2.sets T) (by simp [S8.list]) (S8.small_list hTs.out)
      have hB3 := below_sets hb2 (g := w1.heap.size) hb1.size T
      have hend2 := put_own _ none (some ⟨w1.heap.size, 0, none⟩) 0 8 [] T.list (Sees.nil' _) hW (by simp) (by simp [S8.list])
      clear HKeep HF HG HB0 z2 y0 y1 y2 y3 y4 y5 y6 y7 yf hx1 hx2
      go_wp2_with fail
      refine hend2.mono ?_
      rintro e w4 ⟨d, cd, r, HR, rfl, hs4, hb4, ho4⟩
      go_wp2
      go_ret2
      exact ⟨d, cd, r, by rw [HR.out, List.nil_append]; exact hT2, rfl, hs4, hB3.trans (hb4.mono hB3.size), ho4.mono hB3.size⟩)
   | (have hW := Words.of_row (l := T.list) (heap_alloc_new w2 (.cells (T.list.map wcell).toArray 275)) (by simp [S8.list]) (S8.small_list hTs.out)
      have hB3 := hb2.alloc hb2.size (.cells (T.list.map wcell).toArray 275)
      have hend2 := put_own _ none (some ⟨w2.heap.size, 0, none⟩) 0 8 [] T.list (Sees.nil' _) hW (by simp) (by simp [S8.list])
      clear HKeep HF HG HB0 hx1 hx2
      go_wp2_with fail
      refine hend2.mono ?_
      rintro e w4 ⟨d, cd, r, HR, rfl, hs4, hb4, ho4⟩
      go_wp2
      go_ret2
      exact ⟨d, cd, r, by rw [HR.out, List.nil_append]; exact hT2, rfl, hs4, hB3.trans (hb4.mono hB3.size), ho4.mono hB3.size⟩)
theorem sum_yes {R:List Value}{ty:TypeId}(w:World)(b:Nat)(bs:List UInt8)(h:Dig R ty w b bs)(hT:KTab w):
  Calls Tryz.prog 194 #[.pointer (some ⟨b,0,none⟩)] w λe w'=>∃ d cd r,Hid (r=shaL bs)/\e=.returned (.tuple #[.slice d r.length cd,.int .i64 0])/\Sees w' d cd r/\Below w.heap.size w w':=
 (sum_own w b bs h hT).mono λ_ _ ⟨d,cd,r,h1,h2,h3,h4,_⟩=>⟨d,cd,r,h1,h2,h3,h4⟩
theorem Dig.obj' {R:List Value}{ty:TypeId}{w:World}{b:Nat}{bs:List UInt8}(h:Dig R ty w b bs):∃ n s v,ObjAt R ty w b n s v:=by obtain⟨a,ho,_⟩:=h.obj;exact⟨_,_,_,ho⟩
theorem of_own (w:World)(x:Option Addr)(cx:Nat)(bs:List UInt8)(hx:Sees w x cx bs)(hF:FTab w)(hT:KTab w)(hl:bs.length<=1048576):
  Calls Tryz.prog 189 #[.slice x bs.length cx] w λe w'=>∃ d cd r,Hid (r=shaL bs)/\e=.returned (.tuple #[.slice d r.length cd,.int .i64 0])/\Sees w' d cd r/\Below w.heap.size w w'/\w'.ownsRow w.heap.size 5 1 (.slice d r.length cd) r.length (r.map cellOf):=by
 have HT:Hid (KTab w):=hT
 have HX:Hid (Sees w x cx bs):=hx
 have hnew:=new_any w hF
 clear hT hF hx
 go_enter Tryz.func189,Tryz.ntmps189
 go_wp2_with fail
 refine hnew.mono ?_
 rintro e w1 ⟨rfl,hD1,hb1⟩
 have hw:=write_any w1 w.heap.size [] hD1 x cx bs (HX.out.below hb1) (HT.out.below hb1) (by simpa using hl)
 rw[List.nil_append] at hw
 clear hnew
 go_wp2_with fail
 refine hw.mono ?_
 rintro e w2 ⟨rfl,hD2,hbt2⟩
 obtain⟨n,s,v,ho1⟩:=hD1.obj'
 have hb2:Below w.heap.size w w2:=hbt2.below hb1 (Nat.le_refl _)
 have hsum:=sum_own w2 w.heap.size bs hD2 ((HT.out.below hb1).but ho1 hbt2)
 clear hw ho1 hD1
 go_wp2_with fail
 refine hsum.mono ?_
 rintro e w3 ⟨d,cd,r,hr,rfl,hs3,hb3,ho3⟩
 clear hsum
 go_wp2
 go_ret2
 exact⟨d,cd,r,hr,rfl,hs3,hb2.trans (hb3.mono hb2.size),ho3.mono hb2.size⟩
theorem of_ok (w:World)(x:Option Addr)(cx:Nat)(bs:List UInt8)(hx:Sees w x cx bs)(hF:FTab w)(hT:KTab w)(hl:bs.length<=1048576):
  Calls Tryz.prog 189 #[.slice x bs.length cx] w λe w'=>∃ d cd r,Hid (r=shaL bs)/\e=.returned (.tuple #[.slice d r.length cd,.int .i64 0])/\Sees w' d cd r/\Below w.heap.size w w':=
 (of_own w x cx bs hx hF hT hl).mono λ_ _ ⟨d,cd,r,h1,h2,h3,h4,_⟩=>⟨d,cd,r,h1,h2,h3,h4⟩
theorem gF:Tryz.prog.globalNamed "carillon/sha.first" = some 1:=by kernel_rfl
theorem gFt:(Tryz.prog.globals[1]?).map (·.type)=some 275:=by kernel_rfl
theorem gK:Tryz.prog.globalNamed "carillon/sha.roundWords" = some 2:=by kernel_rfl
theorem gKt:(Tryz.prog.globals[2]?).map (·.type)=some 266:=by kernel_rfl
theorem cells50:Tryz.prog.cellsOf 275=8:=by kernel_rfl
theorem cells39:Tryz.prog.cellsOf 266=64:=by kernel_rfl
theorem cells38:Tryz.prog.cellsOf 62=1:=by kernel_rfl
theorem int_getD (l:List Nat)(i:Nat):(l.map λx:Nat=>(x:Int)).getD i 0=((l.getD i 0:Nat):Int):=by
 rw[List.getD_eq_getElem?_getD,List.getD_eq_getElem?_getD,List.getElem?_map]
 cases l[i]? <;> rfl
theorem tabs {W:World}(h:laidMet Tryz.prog [("carillon/sha.first",Rows.laid_carillon_sha_first),("carillon/sha.roundWords",Rows.laid_carillon_sha_roundWords)] W):FTab W/\KTab W:=by
 have h1:Lib.TabIs Tryz.prog W "carillon/sha.first" .u32 (start.list.map λx:Nat=>(x:Int)):=
  Lib.tabIs_of_head (rest:=[("carillon/sha.roundWords",Rows.laid_carillon_sha_roundWords)]) gF gFt Tryz.underlying275 Tryz.underlying62 cells38 cells50 h
 have h2:=h.filter λx=>x.1 == "carillon/sha.roundWords"
 rw[show ([("carillon/sha.first",Rows.laid_carillon_sha_first),("carillon/sha.roundWords",Rows.laid_carillon_sha_roundWords)]:List (String×DataW Unit)).filter (λx=>x.1 == "carillon/sha.roundWords")=[("carillon/sha.roundWords",Rows.laid_carillon_sha_roundWords)] from by simp] at h2
 have h3:Lib.TabIs Tryz.prog W "carillon/sha.roundWords" .u32 (kTab.map λx:Nat=>(x:Int)):=
  Lib.tabIs_of_head (rest:=[]) gK gKt Tryz.underlying266 Tryz.underlying62 cells38 cells39 h2
 constructor
 ·intro t ht
  rw[h1.cell gF t (by simpa [S8.list] using ht),int_getD]
 ·intro t ht
  rw[h3.cell gK t (by rw[List.length_map,kTab_length];exact ht),int_getD]
def brow (l:List UInt8):Array Value:=(l.map cellOf).toArray
theorem brow_size (l:List UInt8):(brow l).size=l.length:=by simp[brow]
theorem brow_one (l:List UInt8):(brow l).all (·.oneCell')=true:=all_oneCell_toArray (bytes_oneCell l)
theorem cell_bytes {w:World}{g:Nat}{l:List UInt8}{t:TypeId}{fr:Nat×Nat}(h:w.heap[g]?=some (.cells (brow l) t fr)){k:Nat}{x:UInt8}(hx:l[k]?=some x):w.cell? ⟨g,k,none⟩=some (.int .u8 (x.toNat:Int)):=by
 rw[cell_of_row w _ k _ _ _ h]
 simp[brow,hx,cellOf]
theorem setCell_bytes {w:World}{g:Nat}{l:List UInt8}{t:TypeId}(h:w.heap[g]?=some (.cells (brow l) t (0,0)))(k:Nat)(x:UInt8):
  (w.setCell ⟨g,k,none⟩ (.int .u8 (x.toNat:Int))).heap[g]?=some (.cells (brow (l.set k x)) t (0,0)):=by
 rw[heap_setCell_same _ _ _ _ _ _ h]
 congr 2
 unfold brow
 rw[List.setIfInBounds_toArray,List.map_set];rfl
def z64:List UInt8:=List.replicate 64 0
theorem copy_64 (w:World)(g:Nat)(hg:w.heap[g]?=some (.cells (brow z64) 272 (0,0)))(a:Option Addr)(ca:Nat)(l:List UInt8)(ha:Sees w a ca l)(hl:l.length<=64):
  ∃ w',(Builtin.copy_ #[22,22] 3 #[.slice (some ⟨g,0,none⟩) 64 64,.slice a l.length ca]).run Tryz.prog w=.ok (.int .i64 (l.length:Int)) w'/\w'.heap[g]?=some (.cells (brow (l++List.replicate (64-l.length) 0)) 272 (0,0))/\But g w w':=by
 by_cases h0:l=[]
 ·subst h0
  refine⟨w,run_copy_none (P:=Tryz.prog) w 22 22 3 5 _ _ 64 64 0 ca Tryz.underlying22 (by kernel_rfl) (by simp),?_,But.refl _ _⟩
  rw[hg];rfl
 ·obtain⟨b,off,rfl,_⟩:=ha.at' h0
  have h1:=run_copy_row Tryz.prog w 22 22 3 5 g 0 64 64 ⟨b,off,none⟩ l.length ca (brow z64) 272 (l.map cellOf) Tryz.underlying22 (by kernel_rfl) hg (by simp[Nat.min_eq_left hl]) (ha.news _ rfl) (by rw[brow_size];simp[z64];omega) (bytes_oneCell l)
  rw[List.length_map] at h1
  have h2:((brow z64).toList.take 0++l.map cellOf++(brow z64).toList.drop (0+l.length)).toArray=brow (l++List.replicate (64-l.length) 0):=by
   have hz:(brow z64).toList=List.replicate 64 (cellOf 0):=by unfold brow z64;rw[List.map_replicate]
   rw[hz,List.drop_replicate]
   simp[brow]
  rw[h2] at h1
  exact⟨_,h1,setRow_heap w g _ _ 272 _ hg,⟨rfl,rfl,rfl,by simp[World.setRow],λk hk hn=>by simp[World.setRow,Array.getElem?_modify,Ne.symm hn]⟩⟩
theorem fit_ok (w:World)(a:Option Addr)(ca:Nat)(key:List UInt8)(ha:Sees w a ca key)(hF:FTab w)(hT:KTab w)(hl:key.length<=1048576):
  Calls Tryz.prog 190 #[.slice a key.length ca] w λe w'=>e=.returned (.tuple #[.agg (brow (fillK key)),.int .i64 0])/\Below w.heap.size w w':=by
 obtain⟨W,hW⟩:∃ W,W=(w.alloc (.cells (brow z64) 272)).alloc (.cells (brow z64) 272):=⟨_,rfl⟩
 have hbW:Below w.heap.size w W:=by rw[hW];exact((Below.refl _ _).alloc (Nat.le_refl _) _).alloc (by simp) _
 have hres:W.heap[w.heap.size]?=some (.cells (brow z64) 272 (0,0)):=by rw[hW];exact heap_alloc2_old w _ _
 have hblk:W.heap[w.heap.size+1]?=some (.cells (brow z64) 272 (0,0)):=by rw[hW];exact heap_alloc2_new w _ _
 have hszW:W.heap.size=w.heap.size+2:=by rw[hW];simp
 have hend:∀ (W2:World) (x:Option Addr) (cx:Nat) (k:List UInt8),Below W.heap.size W W2->Sees W2 x cx k->k=keyL key ->
   ∃ W3, (Builtin.copy_ #[22, 22] 3 #[.slice (some ⟨w.heap.size + 1, 0, none⟩) 64 64, .slice x k.length cx]).run Tryz.prog W2 = .ok (.int .i64 (k.length : Int)) W3 ∧
     (Instr.loadAt 272 (.pointer (some ⟨w.heap.size + 1, 0, none⟩))).run Tryz.prog W3 = .ok (.agg (brow (fillK key))) W3 ∧
     (Instr.storeAt 272 (.pointer (some ⟨w.heap.size, 0, none⟩)) (.agg (brow (fillK key)))).run Tryz.prog W3 = .ok () (W3.setRow w.heap.size (brow (fillK key))) ∧
     (W3.setRow w.heap.size (brow (fillK key))).heap[w.heap.size]? = some (.cells (brow (fillK key)) 272 (0, 0)) ∧ Below w.heap.size w (W3.setRow w.heap.size (brow (fillK key))) := by
  intro W2 x cx k hb hs hk
  have hk64:=keyL_le key
  have hr2:W2.heap[w.heap.size]?=some (.cells (brow z64) 272 (0,0)):=by rw[hb.block _ (by omega)];exact hres
  have hb2:W2.heap[w.heap.size+1]?=some (.cells (brow z64) 272 (0,0)):=by rw[hb.block _ (by omega)];exact hblk
  obtain⟨W3,h1,h2,h3⟩:=copy_64 W2 (w.heap.size+1) hb2 x cx k hs (by rw[hk];exact hk64)
  have hfill:k++List.replicate (64-k.length) 0=fillK key:=by rw[hk];rfl
  rw[hfill] at h2
  have hsz:(brow (fillK key)).size=64:=by rw[brow_size,fillK_length]
  have hr3:W3.heap[w.heap.size]?=some (.cells (brow z64) 272 (0,0)):=by rw[h3.block _ (by have:=hb.size;omega) (by omega)];exact hr2
  have hB3:Below w.heap.size w W3:=h3.below (hbW.trans (hb.mono hbW.size)) (by omega)
  exact⟨W3,h1,loadAt_row (P:=Tryz.prog) W3 _ 272 272 _ (0,0) _ h2 Tryz.underlying272 rfl (by rw[hsz];kernel_rfl),
   storeAt_row (P:=Tryz.prog) W3 w.heap.size 272 272 _ _ hr3 (by rw[hsz];kernel_rfl) (by rw[hsz,brow_size];rfl) (brow_one _),setRow_heap W3 _ _ _ 272 _ hr3,below_setRow hB3 (Nat.le_refl _) _⟩
 have HE:Hid (∀ (W2:World) (x:Option Addr) (cx:Nat) (k:List UInt8),Below W.heap.size W W2->Sees W2 x cx k->k=keyL key ->
   ∃ W3, (Builtin.copy_ #[22, 22] 3 #[.slice (some ⟨w.heap.size + 1, 0, none⟩) 64 64, .slice x k.length cx]).run Tryz.prog W2 = .ok (.int .i64 (k.length : Int)) W3 ∧
     (Instr.loadAt 272 (.pointer (some ⟨w.heap.size + 1, 0, none⟩))).run Tryz.prog W3 = .ok (.agg (brow (fillK key))) W3 ∧
     (Instr.storeAt 272 (.pointer (some ⟨w.heap.size, 0, none⟩)) (.agg (brow (fillK key)))).run Tryz.prog W3 = .ok () (W3.setRow w.heap.size (brow (fillK key))) ∧
     (W3.setRow w.heap.size (brow (fillK key))).heap[w.heap.size]? = some (.cells (brow (fillK key)) 272 (0, 0)) ∧ Below w.heap.size w (W3.setRow w.heap.size (brow (fillK key)))) := hend
 have hsz:(brow (fillK key)).size=64:=by rw[brow_size,fillK_length]
 have HSZ:Hid ((brow (fillK key)).size=64):=hsz
 obtain⟨C,hC⟩:∃ C,C=brow (fillK key):=⟨_,rfl⟩
 rw[<-hC] at HE HSZ ⊢
 clear hC hend hres hblk hszW hsz
 by_cases hbig:64<key.length
 ·have hd:decide ((64:Int)<(key.length:Int))=true:=by simp;omega
  have hof:=of_ok W a ca key (ha.below hbW) (hF.below hbW) (hT.below hbW) hl
  have hkl0:shaL key=keyL key:=by unfold keyL;rw[if_pos hbig]
  have hkl:Hid (shaL key=keyL key):=hkl0
  rw[hW] at hof
  clear ha hF hT hbig hkl0
  go_enter Tryz.func190,Tryz.ntmps190
  go_wp2_with fail
  refine hof.mono ?_
  rintro e w2 ⟨d,cd,r,hr,rfl,hs2,hb2⟩
  obtain⟨W3,h1,h2,h3,h4,h5⟩:=HE.out w2 d cd r (by rw[hW];exact hb2) hs2 (by rw[hr.out];exact hkl.out)
  have HCP:Hid ((Builtin.copy_ #[22,22] 3 #[.slice (some ⟨w.heap.size+1,0,none⟩) 64 64,.slice d r.length cd]).run Tryz.prog w2=.ok (.int .i64 (r.length:Int)) W3):=h1
  have HLD:Hid ((Instr.loadAt 272 (.pointer (some ⟨w.heap.size+1,0,none⟩))).run Tryz.prog W3=.ok (.agg C) W3):=h2
  have HST:Hid ((Instr.storeAt 272 (.pointer (some ⟨w.heap.size,0,none⟩)) (.agg C)).run Tryz.prog W3=.ok () (W3.setRow w.heap.size C)):=h3
  clear hof HE hr hs2 hb2 h1 h2 h3 hW hbW
  go_wp2_with (first|refine wpList_copy_run rfl _ _ 22 rfl _ _ _ rfl rfl HCP.out ?_|refine wpList_load_run rfl 272 _ rfl _ _ rfl HLD.out ?_|refine wpList_store_run rfl 272 _ _ rfl _ _ rfl rfl HST.out ?_)
  (try simp only[Exit.inBlock,Exit.then])
  refine bodyPost_ret (results_cell_tmp rfl _ _ w.heap.size 272 C (0,0) _ rfl h4 Tryz.underlying272 rfl (by rw[HSZ.out];kernel_rfl)) rfl ?_
  exact⟨rfl,h5⟩
 ·have hd:decide ((64:Int)<(key.length:Int))=false:=by simp;omega
  have hkl:keyL key=key:=by unfold keyL;rw[if_neg hbig]
  obtain⟨W3,h1,h2,h3,h4,h5⟩:=HE.out W a ca key (Below.refl _ _) (ha.below hbW) hkl.symm
  rw[hW] at h1
  have HCP:Hid ((Builtin.copy_ #[22,22] 3 #[.slice (some ⟨w.heap.size+1,0,none⟩) 64 64,.slice a key.length ca]).run Tryz.prog ((w.alloc (.cells (brow z64) 272)).alloc (.cells (brow z64) 272))=.ok (.int .i64 (key.length:Int)) W3):=h1
  have HLD:Hid ((Instr.loadAt 272 (.pointer (some ⟨w.heap.size+1,0,none⟩))).run Tryz.prog W3=.ok (.agg C) W3):=h2
  have HST:Hid ((Instr.storeAt 272 (.pointer (some ⟨w.heap.size,0,none⟩)) (.agg C)).run Tryz.prog W3=.ok () (W3.setRow w.heap.size C)):=h3
  clear HE h1 h2 h3 hW hbW ha hF hT hkl
  go_enter Tryz.func190,Tryz.ntmps190
  go_wp2_with (first|refine wpList_copy_run rfl _ _ 22 rfl _ _ _ rfl rfl HCP.out ?_|refine wpList_load_run rfl 272 _ rfl _ _ rfl HLD.out ?_|refine wpList_store_run rfl 272 _ _ rfl _ _ rfl rfl HST.out ?_)
  (try simp only[Exit.inBlock,Exit.then])
  refine bodyPost_ret (results_cell_tmp rfl _ _ w.heap.size 272 C (0,0) _ rfl h4 Tryz.underlying272 rfl (by rw[HSZ.out];kernel_rfl)) rfl ?_
  exact⟨rfl,h5⟩
structure Pd (w wr:World)(l:List UInt8):Prop where
 res:wr.heap[w.heap.size]?=some (.cells #[.bool false,.int .i64 0,.int .u32 0,.int .u32 0,.int .u32 0,.int .u32 0,.int .u32 0,.int .u32 0,.int .u32 0,.int .u32 0,.slice none 0 0] 277 (0,0))
 row:wr.heap[w.heap.size+1]?=some (.cells (brow l) 272 (0,0))
 bel:Below w.heap.size w wr
theorem Pd.store {w wr:World}{l:List UInt8}(h:Pd w wr l)(k:Nat)(x:UInt8):Pd w (wr.setCell ⟨w.heap.size+1,k,none⟩ (.int .u8 (x.toNat:Int))) (l.set k x):=
 ⟨by rw[heap_setCell_other _ _ _ _ (by simp)];exact h.res,setCell_bytes h.row k x,h.bel.setCell (p:=⟨w.heap.size+1,k,none⟩) (by simp) _⟩
def padTo (l:List UInt8)(c:UInt8)(k:Nat):List UInt8:=(l.take k).map (· ^^^ c)++l.drop k
theorem padTo_at (l:List UInt8)(c:UInt8)(k:Nat)(x:UInt8)(h:l[k]?=some x):(padTo l c k)[k]?=some x:=by
 have hk:k<l.length:=(List.getElem?_eq_some_iff.1 h).1
 unfold padTo
 rw[List.getElem?_append_right (by simp;omega)]
 simp[show min k l.length=k by omega,h]
theorem padTo_set (l:List UInt8)(c:UInt8)(k:Nat)(x:UInt8)(h:l[k]?=some x):(padTo l c k).set k (x^^^c)=padTo l c (k+1):=by
 have hk:k<l.length:=(List.getElem?_eq_some_iff.1 h).1
 unfold padTo
 have e:l.drop k=x::l.drop (k+1):=by
  rw[List.drop_eq_getElem_cons hk]
  congr 1
  exact(List.getElem?_eq_some_iff.1 h).2
 rw[take_snoc l k x h,e,List.set_append_right _ _ (by simp;omega)]
 simp[show min k l.length=k by omega]
theorem padTo_all (l:List UInt8)(c:UInt8):padTo l c l.length=l.map (· ^^^ c):=by simp[padTo]
theorem leftOf_64 (l:List UInt8)(h:l.length=64):leftOf l=[]:=List.eq_nil_of_length_eq_zero (by rw[leftOf_length,h])
theorem begun_any (w:World)(g:Nat)(l:List UInt8)(c:UInt8)(hl:l.length=64)(hg:w.heap[g]?=some (.cells (brow l) 272 (0,0)))(hF:FTab w)(hT:KTab w):
  Calls Tryz.prog 191 #[.int .u8 (c.toNat:Int),.pointer (some ⟨g,0,none⟩)] w λe w'=>∃ a,e=.returned (.agg (digL [] 64 (stOf (l.map (· ^^^ c))) (.slice a 0 0)).toArray)/\Below w.heap.size w w':=by
 have HL:Hid (l.length=64):=hl
 have HF:Hid (FTab w):=hF
 have HT:Hid (KTab w):=hT
 have hsz:(brow l).size=64:=by rw[brow_size,hl]
 obtain⟨W,hW⟩:∃ W,W=(w.alloc (.cells #[.bool false,.int .i64 0,.int .u32 0,.int .u32 0,.int .u32 0,.int .u32 0,.int .u32 0,.int .u32 0,.int .u32 0,.int .u32 0,.slice none 0 0] 277)):=⟨_,rfl⟩
 have hgl:g<w.heap.size:=(Array.getElem?_eq_some_iff.1 hg).1
 have hbW:Below w.heap.size w W:=by rw[hW];exact(Below.refl _ _).alloc (Nat.le_refl _) _
 have hgW:W.heap[g]?=some (.cells (brow l) 272 (0,0)):=by rw[hbW.block g hgl];exact hg
 have hWs:W.heap.size=w.heap.size+1:=by rw[hW];simp
 obtain⟨C,hC⟩:∃ C,C=brow l:=⟨_,rfl⟩
 have hld:=loadAt_row (P:=Tryz.prog) W g 272 272 C (0,0) _ (by rw[hC];exact hgW) Tryz.underlying272 rfl (by rw[hC,hsz];kernel_rfl)
 have hst:=storeAt_row (P:=Tryz.prog) (W.alloc (.cells (brow z64) 272)) (w.heap.size+1) 272 272 _ C (by rw[<-hWs];exact heap_alloc_new W _) (by rw[hC,hsz];kernel_rfl) (by rw[hC,hsz,brow_size];rfl) (by rw[hC];exact brow_one _)
 have hP0:Pd w ((W.alloc (.cells (brow z64) 272)).setRow (w.heap.size+1) C) (padTo l c 0):=by
  have hbb:Below W.heap.size W (W.alloc (.cells (brow z64) 272)):=(Below.refl _ _).alloc (Nat.le_refl _) _
  refine⟨?_,?_,below_setRow (hbW.alloc (by omega) _) (g:=w.heap.size+1) (by omega) C⟩
  ·have h1:((W.alloc (.cells (brow z64) 272)).setRow (w.heap.size+1) C).heap[w.heap.size]?=(W.alloc (.cells (brow z64) 272)).heap[w.heap.size]?:=by simp[World.setRow,Array.getElem?_modify]
   rw[h1,hbb.block _ (by omega),hW]
   exact heap_alloc_new w _
  ·have h2:=setRow_heap (W.alloc (.cells (brow z64) 272)) (w.heap.size+1) _ C 272 _ (by rw[<-hWs];exact heap_alloc_new W _)
   rw[h2,hC];rfl
 have HLD:Hid ((Instr.loadAt 272 (.pointer (some ⟨g,0,none⟩))).run Tryz.prog (w.alloc (.cells #[.bool false,.int .i64 0,.int .u32 0,.int .u32 0,.int .u32 0,.int .u32 0,.int .u32 0,.int .u32 0,.int .u32 0,.int .u32 0,.slice none 0 0] 277))=.ok (.agg C) (w.alloc (.cells #[.bool false,.int .i64 0,.int .u32 0,.int .u32 0,.int .u32 0,.int .u32 0,.int .u32 0,.int .u32 0,.int .u32 0,.int .u32 0,.slice none 0 0] 277))):=by rw[<-hW];exact hld
 obtain⟨W2,hW2⟩:∃ W2,W2=((W.alloc (.cells (brow z64) 272)).setRow (w.heap.size+1) C):=⟨_,rfl⟩
 rw[<-hW2] at hP0 hst
 have HST:Hid ((Instr.storeAt 272 (.pointer (some ⟨w.heap.size+1,0,none⟩)) (.agg C)).run Tryz.prog ((w.alloc (.cells #[.bool false,.int .i64 0,.int .u32 0,.int .u32 0,.int .u32 0,.int .u32 0,.int .u32 0,.int .u32 0,.int .u32 0,.int .u32 0,.slice none 0 0] 277)).alloc (.cells (brow z64) 272))=.ok () W2):=by rw[<-hW];exact hst
 clear hl hF hT hsz hgl hbW hgW hWs hC hld hst hW hW2 hg
 go_enter Tryz.func191,Tryz.ntmps191
 go_wp2_with (first|refine wpList_load_run rfl 272 _ rfl _ _ rfl HLD.out ?_|refine wpList_store_run rfl 272 _ _ rfl _ _ rfl rfl HST.out ?_)
 go_loopw [8] (λi wr=>∃ k:Nat,k<=64/\i=.int .i64 k/\Pd w wr (padTo l c k)) (λi _=>64-(intOf i).toNat)
 case atStart=>exact⟨0,by omega,rfl,hP0⟩
 case round=>
  obtain⟨k,hk,rfl,hP⟩:=hrel
  clear hP0 HLD HST
  by_cases hlt:k<64
  ·obtain⟨x,hx⟩:∃ x,l[k]?=some x:=⟨l[k]'(by rw[HL.out];exact hlt),by simp[HL.out,hlt]⟩
   have hc:=cell_bytes hP.row (padTo_at l c k x hx)
   have hf:=frozen_of_row wr (w.heap.size+1) k _ _ hP.row
   obtain⟨z,hz⟩:∃ z,z=x^^^c:=⟨_,rfl⟩
   have e1:bits .xor .u8 (x.toNat:Int) (c.toNat:Int)=(z.toNat:Int):=by rw[hz];exact bxor x c
   have hst:=hP.store k z
   rw[hz,padTo_set l c k x hx,<-hz] at hst
   have HS:Hid (Pd w (wr.setCell ⟨w.heap.size+1,k,none⟩ (.int .u8 (z.toNat:Int))) (padTo l c (k+1))):=hst
   have hki:(k:Int)<64:=by omega
   clear hst hP hx hz
   go_wp2
   go_roundw
   case rel=>exact⟨k+1,by omega,by go_num,HS.out⟩
   case measure=>simp[intOf];omega
  ·obtain rfl:k=64:=by omega
   obtain⟨p,hp⟩:∃ p,p=l.map (· ^^^ c):=⟨_,rfl⟩
   have hpl:p.length=64:=by rw[hp,List.length_map,HL.out]
   have hrow:wr.heap[w.heap.size+1]?=some (.cells (brow p) 272 (0,0)):=by rw[hP.row,hp,<-padTo_all,HL.out]
   have hres:=hP.res
   have hb:=hP.bel
   have HPP:Hid (p=l.map (· ^^^ c)):=hp
   have HP:Hid (p.length=64):=hpl
   have HRW:Hid (wr.heap[w.heap.size+1]?=some (.cells (brow p) 272 (0,0))):=hrow
   have HRS:Hid (wr.heap[w.heap.size]?=some (.cells #[.bool false,.int .i64 0,.int .u32 0,.int .u32 0,.int .u32 0,.int .u32 0,.int .u32 0,.int .u32 0,.int .u32 0,.int .u32 0,.slice none 0 0] 277 (0,0))):=hres
   have hnew:=new_any wr (HF.out.below hb)
   clear hP hp hpl hrow hres
   go_wp2_with fail
   refine hnew.mono ?_
   rintro e w1 ⟨rfl,hD1,hb1⟩
   have hs1:Sees w1 (some ⟨w.heap.size+1,0,none⟩) 64 p:=by
    have hlt2:w.heap.size+1<wr.heap.size:=(Array.getElem?_eq_some_iff.1 HRW.out).1
    have h1:w1.heap[w.heap.size+1]?=some (.cells (brow p) 272 (0,0)):=by rw[hb1.block _ hlt2];exact HRW.out
    exact⟨by rw[HP.out];exact Nat.le_refl _,by unfold maxLen;omega,by simp,λ_=>⟨_,0,rfl,λi x hx=>by rw[Nat.zero_add];exact cell_bytes h1 hx⟩⟩
   have bel1:Below w.heap.size w w1:=hb.trans (hb1.mono hb.size)
   have hw:=write_any w1 wr.heap.size [] hD1 _ 64 p hs1 (HT.out.below bel1) (by rw[HP.out];simp)
   rw[List.nil_append,HP.out] at hw
   clear hnew hs1
   go_wp2_with fail
   refine hw.mono ?_
   rintro e w2 ⟨rfl,hD2,hbt2⟩
   have hwl:w.heap.size<wr.heap.size:=(Array.getElem?_eq_some_iff.1 HRS.out).1
   obtain⟨a,ho,hsl⟩:=hD2.obj
   have bel2:Below w.heap.size w w2:=hbt2.below bel1 hb.size
   rw[leftOf_64 p HP.out,HP.out] at ho
   have hr2:w2.heap[w.heap.size]?=some (.cells #[.bool false,.int .i64 0,.int .u32 0,.int .u32 0,.int .u32 0,.int .u32 0,.int .u32 0,.int .u32 0,.int .u32 0,.int .u32 0,.slice none 0 0] 277 (0,0)):=by
    rw[hbt2.block _ (Nat.lt_of_lt_of_le hwl hb1.size) (by omega),hb1.block _ hwl];exact HRS.out
   obtain⟨D,hD⟩:∃ D,D=(digL [] 64 (stOf p) (.slice a 0 0)).toArray:=⟨_,rfl⟩
   have hDs:D.size=11:=by rw[hD];rfl
   have hrow2:w2.heap[wr.heap.size]?=some (.cells D 277 (0,0)):=by rw[hD];exact ho.1
   have hD1':D.all (·.oneCell')=true:=by rw[hD];simp[digL,Value.oneCell']
   have HLD:Hid ((Instr.loadAt 277 (.pointer (some ⟨wr.heap.size,0,none⟩))).run Tryz.prog w2=.ok (.agg D) w2):=loadAt_row (P:=Tryz.prog) w2 _ 277 277 D (0,0) _ hrow2 Tryz.underlying277 rfl (by rw[hDs];kernel_rfl)
   have HST:Hid ((Instr.storeAt 277 (.pointer (some ⟨w.heap.size,0,none⟩)) (.agg D)).run Tryz.prog w2=.ok () (w2.setRow w.heap.size D)):=storeAt_row (P:=Tryz.prog) w2 w.heap.size 277 277 _ D hr2 (by rw[hDs];kernel_rfl) (by rw[hDs];rfl) hD1'
   have hres:=setRow_heap w2 w.heap.size _ D 277 _ hr2
   have hbel:=below_setRow bel2 (Nat.le_refl _) D
   have HD:Hid (D=(digL [] 64 (stOf p) (.slice a 0 0)).toArray):=hD
   have HDS:Hid (D.size=11):=hDs
   clear hw hD1 hD2 hbt2 ho hsl hr2 hD hDs hrow2 hD1' HRW HRS
   go_wp2_with (first|refine wpList_load_run rfl 277 _ rfl _ _ rfl HLD.out ?_|refine wpList_store_run rfl 277 _ _ rfl _ _ rfl rfl HST.out ?_)
   (try simp only[Exit.inBlock,Exit.then])
   refine bodyPost_ret (results_cell_row rfl _ _ w.heap.size 277 D (0,0) _ rfl hres Tryz.underlying277 rfl (by rw[HDS.out];kernel_rfl)) rfl ?_
   exact⟨a,by rw[HD.out,HPP.out],hbel⟩
end Go.Proofs.YthogohkieiogiaaGreatDoor
