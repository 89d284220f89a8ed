/-
  Bytes behind a row of whole bytes: what Grow, the store and 'copy' leave. No contract here.

  The contract of row.write.

  The contracts of package bits' writer.
  The contracts of package bits' reader.
-/
import Derived.Test.YthogohkieiogiaaGreatDoorBitsC
namespace Go.Proofs.YthogohkieiogiaaGreatDoor
set_option maxRecDepth 20000
set_option maxHeartbeats 3200000
open Go.ChangeShapes Go.WideShapes Go.ChangeAt Go.RowKit
theorem packL_even (bs:List Bool)(q:Nat)(h:bs.length=8*q)(l:List UInt8):packL (bs++bitsOf l)=packL bs++l:=by
 have h1:=packL_bits bs
 rw[h,show 8*((8*q+7)/8)-8*q=0 by omega,List.replicate_zero,List.append_nil] at h1
 conv=>lhs;rw[<-h1]
 rw[<-bitsOf_app,packL_bytes]
theorem row_put {ty:TypeId}{R:List Value}{w w1:World}{b sz:Nat}{P:List UInt8}{F:Nat->Prop}(hty:ty≠5)(h:RowP ty R w b (sz,P) F)(hbel:Below w.heap.size w w1)(g cap:Nat)(cur:Array Value)(hg:w1.heap[g]?=some (.cells cur 5 (0,0)))(x:Option Addr)(cx:Nat)(l:List UInt8)(hs:Sees w x cx l)(hsn:∀ b off,x=some ⟨b,off,none⟩->l≠[]->¬ F b)(hcap:P.length+l.length<=cap)(hcm:cap<=maxLen)(hcs:cur.size=cap)(htk:cur.toList.take P.length=P.map cellOf)(hgF:F g\/w.heap.size<=g):
  w1.cell? ⟨b,1,none⟩=w.cell? ⟨b,1,none⟩/\w1.frozen? ⟨b,1,none⟩=false /\
  ∃ W3, (∀ D, D = .slice (some ⟨g, P.length, none⟩) l.length (cap - P.length) ∨ l = [] ∧ D = .slice (some ⟨g, 0, none⟩) 0 0 →
    (Builtin.copy_ #[22, 22] 3 #[D, .slice x l.length cx]).run Tryz.prog (w1.setCell ⟨b, 1, none⟩ (.slice (some ⟨g, 0, none⟩) (P.length + l.length) cap)) = .ok (.int .i64 (l.length : Int)) W3) ∧
    Left (RowP ty R) w F b (sz, P ++ l) W3 := by
 obtain⟨v,h1,h2,h3,h4,h5⟩:=h
 have hb:b<w.heap.size:=h5 b h3
 have h1':w1.heap[b]?=some (.cells (.bool true::v :: .int .i64 (sz:Int)::R).toArray ty (0,0)):=by rw[hbel.block b hb];exact h1
 have hbg:b≠g:=by rintro rfl;rw[h1'] at hg;simp at hg;exact hty hg.2
 refine⟨by rw[cell_of_row _ _ 1 _ _ _ h1',cell_of_row _ _ 1 _ _ _ h1],frozen_of_row _ _ 1 _ _ h1',?_⟩
 obtain⟨W2,hW2⟩:∃ W2,W2=w1.setCell ⟨b,1,none⟩ (.slice (some ⟨g,0,none⟩) (P.length+l.length) cap):=⟨_,rfl⟩
 rw[<-hW2]
 have hap2:Apart F w W2:=by rw[hW2];exact(Apart.of_below hbel).setCell (.inl h3) 1 _
 have hg2:W2.heap[g]?=some (.cells cur 5 (0,0)):=by rw[hW2,heap_setCell_other _ _ _ _ hbg.symm];exact hg
 have hb2:W2.heap[b]?=some (.cells (.bool true :: .slice (some ⟨g,0,none⟩) (P.length+l.length) cap :: .int .i64 (sz:Int)::R).toArray ty (0,0)):=by
  rw[hW2,heap_setCell_same _ _ _ _ _ _ h1'];rfl
 obtain⟨W3,hrun,hg3,hap3,hsz⟩:=copy_row W2 g P.length l.length (cap-P.length) cur hg2 (by omega) x cx l (hap2.sees hs hsn) l.length (by omega)
 have hb3:W3.heap[b]?=some (.cells (.bool true :: .slice (some ⟨g,0,none⟩) (P.length+l.length) cap :: .int .i64 (sz:Int)::R).toArray ty (0,0)):=by
  rw[hap3.block b (Array.getElem?_eq_some_iff.1 hb2).1 hbg];exact hb2
 refine⟨W3,?_,λk=>k=b\/k=g/\k<W3.heap.size,⟨.slice (some ⟨g,0,none⟩) (P.length+l.length) cap,hb3,?_,.inl rfl,?_,?_⟩,?_,?_⟩
 ·rintro D (rfl|⟨rfl,rfl⟩)
  ·exact hrun
  ·have e1:=copy_nil W2 (some ⟨g,P.length,none⟩) (cap-P.length) x cx 0
   have e2:(Builtin.copy_ #[22,22] 3 #[.slice (some ⟨g,P.length,none⟩) 0 (cap-P.length),.slice x 0 cx]).run Tryz.prog W2=.ok (.int .i64 0) W3:=hrun
   rw[e1] at e2
   have e3:W2=W3:=by injection e2
   rw[<-e3]
   exact copy_nil W2 (some ⟨g,0,none⟩) 0 x cx 0
 ·refine⟨by simp,.inr ⟨g,cap,_,by rw[List.length_append],Nat.zero_le _,hg3,by rw[List.length_append];exact hcap,hcm,?_,?_⟩⟩
  ·simp[hcs];omega
  ·rw[List.take_length,htk,<-List.map_append,Nat.mul_one,List.take_append_of_le_length (by simp),List.take_of_length_le (by simp)]
 ·intro k hk
  obtain rfl:g=k:=by simpa [Value.ownBlock] using hk
  exact .inr ⟨rfl,(Array.getElem?_eq_some_iff.1 hg3).1⟩
 ·rintro k (rfl|⟨_,hk⟩)
  ·exact(Array.getElem?_eq_some_iff.1 hb3).1
  ·exact hk
 ·exact hap2.trans hap3 (λi hi=>by rw[hi];exact hgF)
 ·rintro k (rfl|⟨rfl,_⟩)
  ·exact .inl h3
  ·exact hgF
theorem row_none {ty:TypeId}{R:List Value}{w w1:World}{b sz:Nat}{F:Nat->Prop}(h:RowP ty R w b (sz,[]) F)(hbel:Below w.heap.size w w1):
  w1.cell? ⟨b,1,none⟩=w.cell? ⟨b,1,none⟩/\w1.frozen? ⟨b,1,none⟩=false/\Left (RowP ty R) w F b (sz,[]) (w1.setCell ⟨b,1,none⟩ (.slice none 0 0)):=by
 obtain⟨v,h1,h2,h3,h4,h5⟩:=h
 have hb:b<w.heap.size:=h5 b h3
 have h1':w1.heap[b]?=some (.cells (.bool true::v :: .int .i64 (sz:Int)::R).toArray ty (0,0)):=by rw[hbel.block b hb];exact h1
 refine⟨by rw[cell_of_row _ _ 1 _ _ _ h1',cell_of_row _ _ 1 _ _ _ h1],frozen_of_row _ _ 1 _ _ h1',λk=>k=b,⟨.slice none 0 0,by rw[heap_setCell_same _ _ _ _ _ _ h1'];rfl,⟨rfl,.inl ⟨rfl,rfl⟩⟩,rfl,?_,?_⟩,(Apart.of_below hbel).setCell (.inl h3) 1 _,?_⟩
 ·intro k hk;simp[Value.ownBlock] at hk
 ·rintro k rfl;have:=hbel.size;simp;omega
 ·rintro k rfl;exact .inl h3
theorem write_odd (ty:TypeId)(R:List Value)(hty:ty≠5)(w:World)(b:Nat)(bs:List Bool)(F:Nat->Prop)(h:RowB ty R w b bs F)(x:Option Addr)(cx:Nat)(l:List UInt8)(hs:Sees w x cx l)(hsn:∀ b off,x=some ⟨b,off,none⟩->l≠[]->¬ F b)(hu:bs.length%8≠0)(hl:bs.length+8*l.length<=8192):
  Calls Tryz.prog 72 #[.pointer (some ⟨b,0,none⟩),.slice x l.length cx] w λe w'=>(∃ r,e=.returned r)/\Left (RowB ty R) w F b (bs++bitsOf l) w':=by
 obtain⟨d,cd,c0,c1,c2,fz,_,_,_⟩:=h.reads
 simp only at c2
 obtain⟨L,hL⟩:∃ L,L=bs.length:=⟨_,rfl⟩
 rw[<-hL] at c2
 obtain⟨u,hu1⟩:∃ u,u=L%8:=⟨_,rfl⟩
 have u1:(L:Int)%8=(u:Int):=by omega
 have u2:(L:Int).tmod 8=(u:Int):=by rw[Int.tmod_eq_emod_of_nonneg (by omega)];exact u1
 have du:((u:Int)==0)=false:=by rw[hu1,hL];simp;omega
 have HL:Hid (bs.length+8*l.length<=8192):=hl
 have hLm:L<=8192:=by omega
 have hll:l.length<=1024:=by omega
 have HS:Hid (Sees w x cx l):=hs
 have HSN:Hid (∀ b off,x=some ⟨b,off,none⟩->l≠[]->¬ F b):=hsn
 have HL0:Hid (Left (RowB ty R) w F b (bs++bitsOf (l.take 0)) w):=⟨F,by rw[List.take_zero];simpa [bitsOf] using h,Apart.refl _ _,λ_ h=>.inl h⟩
 clear h hs hsn hu hl hL hu1 c0 c1 fz
 go_enter Tryz.func72,Tryz.ntmps72
 go_wp2
 go_loopw [5,15] (λ_ i wr=>∃ k:Nat,k<=l.length/\i=.int .i64 k/\Left (RowB ty R) w F b (bs++bitsOf (l.take k)) wr) (λ_ i _=>l.length-(intOf i).toNat)
 case atStart=>exact⟨0,Nat.zero_le _,rfl,HL0.out⟩
 case round=>
  obtain⟨k,hk,rfl,F1,hM,hap,hF1⟩:=hrel
  clear HL0
  by_cases hlt:k<l.length
  ·obtain⟨c,hc⟩:∃ c,l[k]?=some c:=⟨l[k],by simp[hlt]⟩
   obtain⟨b1,o1,rfl,hc1⟩:=(hap.sees HS.out HSN.out).get hc
   have htl:(l.take k).length=k:=by simp;omega
   have hadd:=add_ok ty R hty wr b _ F1 hM c.toNat 8 (by have:=toNat_lt256 c;omega) (by omega) (by rw[List.length_append,bitsOf_length,htl];have:=HL.out;omega)
   have e1:bs++bitsOf (l.take k)++bitsN c.toNat 8=bs++bitsOf (l.take (k+1)):=by
    rw[take_snoc l k c hc,bitsOf_app,bitsN_byte,List.append_assoc];simp[bitsOf]
   rw[e1] at hadd
   have hc8:c.toNat<256:=toNat_lt256 c
   have wc:IntKind.u64.wrap (c.toNat:Int)=(c.toNat:Int):=by rw[IntKind.wrap_u64];omega
   have HAP:Hid (Apart F w wr):=hap
   have HF1:Hid (∀ k,F1 k->F k\/w.heap.size<=k):=hF1
   clear hM hap hF1 hc e1 htl c2
   go_wp2_with fail
   refine hadd.mono ?_
   rintro e w2 ⟨⟨r,rfl⟩,F2,hM2,hap2,hF2⟩
   have HE:Hid (Left (RowB ty R) w F b (bs++bitsOf (l.take (k+1))) w2):=⟨F2,hM2,HAP.out.trans hap2 HF1.out,λi hi=>by
    rcases hF2 i hi with h|h
    ·exact HF1.out i h
    ·have:=HAP.out.size;exact .inr (by omega)⟩
   clear hM2 hap2 hF2 hadd
   go_wp2
   go_roundw
   case rel=>exact⟨k+1,by omega,by go_num,HE.out⟩
   case measure=>simp[intOf];omega
  ·obtain rfl:k=l.length:=by omega
   rw[List.take_length] at hM
   have HE:Hid (Left (RowB ty R) w F b (bs++bitsOf l) wr):=⟨F1,hM,hap,hF1⟩
   clear hM hap hF1
   go_wp2
   try simp only[Exit.inBlock,Exit.then]
   refine bodyPost_ret (results_none rfl _ _ _) rfl ?_
   exact⟨⟨_,rfl⟩,HE.out⟩
theorem write_even (ty:TypeId)(R:List Value)(hty:ty≠5)(w:World)(b:Nat)(bs:List Bool)(F:Nat->Prop)(h:RowB ty R w b bs F)(x:Option Addr)(cx:Nat)(l:List UInt8)(hs:Sees w x cx l)(hsn:∀ b off,x=some ⟨b,off,none⟩->l≠[]->¬ F b)(q:Nat)(hq:bs.length=8*q)(hl:q+l.length<=140737488355328):
  Calls Tryz.prog 72 #[.pointer (some ⟨b,0,none⟩),.slice x l.length cx] w λe w'=>(∃ r,e=.returned r)/\Left (RowB ty R) w F b (bs++bitsOf l) w':=by
 obtain⟨P,hP⟩:∃ P,P=packL bs:=⟨_,rfl⟩
 have hPl:P.length=q:=by rw[hP,packL_length];omega
 obtain⟨L,hL⟩:∃ L,L=8*q:=⟨_,rfl⟩
 have hR:RowP ty R w b (L,P) F:=by unfold RowB at h;rw[hq,<-hP,<-hL] at h;exact h
 obtain⟨d,cd,c0,c1,c2,fz,_,_,hown⟩:=hR.reads
 simp only at c1 c2 hown
 have hfF:∀ k,(Value.slice d P.length cd).ownBlock=some k->F k:=by
  obtain⟨v,h1,_,_,h4,_⟩:=hR
  have h6:=cell_of_row _ _ 1 _ _ _ h1
  rw[c1] at h6
  have hv:Value.slice d P.length cd=v:=by simpa using h6
  rw[hv];exact h4
 have hgrow:=grow_ok w 0 _ P hown l.length (by omega)
 obtain⟨m,hm⟩:∃ m,m=l.length:=⟨_,rfl⟩
 have hend:∀ W3,Left (RowP ty R) w F b (L,P++l) W3->Left (RowB ty R) w F b (bs++bitsOf l) (W3.setCell ⟨b,2,none⟩ (.int .i64 ((L+8*m:Nat):Int)))/\W3.cell? ⟨b,2,none⟩=some (.int .i64 (L:Int))/\W3.frozen? ⟨b,2,none⟩=false/\∃ d' cd',W3.cell? ⟨b,1,none⟩=some (.slice d' (q+m) cd'):=by
  rintro W3 ⟨F3,hR3,hap3,hF3⟩
  obtain⟨d3,cd3,_,k1,k2,k3,_⟩:=hR3.reads
  refine⟨⟨F3,?_,hap3.setCell (hF3 b (by obtain⟨_,_,_,h5,_⟩:=hR3;exact h5)) 2 _,hF3⟩,k2,k3 2,d3,cd3,?_⟩
  ·unfold RowB
   rw[packL_even bs q hq l,<-hP,List.length_append,bitsOf_length,hq,<-hL,<-hm]
   exact row_size hty hR3 _
  ·simpa [hPl,hm] using k1
 have u1:(L:Int)%8=0:=by omega
 have u2:(L:Int).tmod 8=0:=by rw[Int.tmod_eq_emod_of_nonneg (by omega)];exact u1
 obtain⟨L2,hL2⟩:∃ L2,L2=L+8*m:=⟨_,rfl⟩
 have l1:(L:Int)+8*(m:Int)=(L2:Int):=by omega
 rw[<-hL2] at hend
 have HEND:Hid (∀ W3,Left (RowP ty R) w F b (L,P++l) W3->Left (RowB ty R) w F b (bs++bitsOf l) (W3.setCell ⟨b,2,none⟩ (.int .i64 (L2:Int)))/\W3.cell? ⟨b,2,none⟩=some (.int .i64 (L:Int))/\W3.frozen? ⟨b,2,none⟩=false/\∃ d' cd',W3.cell? ⟨b,1,none⟩=some (.slice d' (q+m) cd')):=hend
 have HR:Hid (RowP ty R w b (L,P) F):=hR
 have HS:Hid (Sees w x cx l):=hs
 have HSN:Hid (∀ b off,x=some ⟨b,off,none⟩->l≠[]->¬ F b):=hsn
 have HFF:Hid (∀ k,(Value.slice d P.length cd).ownBlock=some k->F k):=hfF
 have HM:Hid (m=l.length/\P.length=q/\L=8*q/\L2=L+8*m):=⟨hm,hPl,hL,hL2⟩
 have hLm:L2<=1125899906842624:=by omega
 have hLm2:L<=L2:=by omega
 have hmm:m<=140737488355328:=by omega
 have hqm:q+m<=140737488355328:=by omega
 rw[hPl] at c1 hgrow
 rw[<-hm] at hgrow ⊢
 clear hR h hs hsn hfF hend hown hP hq hl hPl hL hL2 hm c0 fz
 go_enter Tryz.func72,Tryz.ntmps72
 go_wp2_with fail
 refine hgrow.mono ?_
 rintro e w1 ⟨v',rfl,hroom,hvv,hbel⟩
 clear hgrow
 rcases hroom with ⟨rfl,hP0,hm0⟩|⟨g,cap,cur,rfl,hg,hcap,hcm,hcs,htk⟩
 ·obtain rfl:m=0:=hm0
  have hq0:q=0:=by have:=HM.out.2.1;rw[hP0] at this;exact this.symm
  subst hq0
  have hl0:l=[]:=List.eq_nil_of_length_eq_zero HM.out.1.symm
  have hR0:RowP ty R w b (L,[]) F:=by have:=HR.out;rw[hP0] at this;exact this
  obtain⟨e1,e2,hL1⟩:=row_none hR0 hbel
  obtain⟨W2,hW2⟩:∃ W2,W2=w1.setCell ⟨b,1,none⟩ (.slice none 0 0):=⟨_,rfl⟩
  rw[<-hW2] at hL1
  rw[c1] at e1
  have hst:(Instr.storeAt 22 (.pointer (some ⟨b,1,none⟩)) (.slice none 0 0)).run Tryz.prog w1=.ok () W2:=by
   rw[hW2];simp[Instr.storeAt,Instr.sureAddr,e1,e2,go_sem]
  have hL2:Left (RowP ty R) w F b (L,P++l) W2:=by rw[hP0,hl0];exact hL1
  obtain⟨HE,k2,k3,_⟩:=HEND.out W2 hL2
  have k1:W2.cell? ⟨b,1,none⟩=some (.slice none 0 0):=by rw[hW2];simp[e1,go_sem]
  have HST:Hid ((Instr.storeAt 22 (.pointer (some ⟨b,1,none⟩)) (.slice none 0 0)).run Tryz.prog w1=.ok () W2):=hst
  have HCP:Hid ((Builtin.copy_ #[22,22] 3 #[.slice none 0 0,.slice x 0 cx]).run Tryz.prog W2=.ok (.int .i64 0) W2):=copy_nil _ _ _ _ _ _
  have HE2:Hid (Left (RowB ty R) w F b (bs++bitsOf l) (W2.setCell ⟨b,2,none⟩ (.int .i64 (L2:Int)))):=HE
  have hLL:L2=L:=by have:=HM.out.2.2.2;omega
  subst hLL
  clear hst hL2 hL1 hR0 hW2 HE hP0 hl0 hvv hbel
  go_wp2_with (first|refine wpList_copy_run rfl _ _ 22 rfl _ _ _ rfl rfl HCP.out ?_|refine wpList_bstore_run rfl 22 _ _ rfl _ _ rfl rfl HST.out ?_)
  go_end0
  exact⟨⟨_,rfl⟩,HE2.out⟩
 ·have hgF:F g\/w.heap.size<=g:=by
   rcases hvv with h|h
   ·exact .inl (HFF.out g (by rw[HM.out.2.1,<-h];rfl))
   ·have h9:g=w.heap.size:=by simpa [Value.ownBlock] using h
    exact .inr (by omega)
  have hml:=HM.out.1
  rw[hml] at hcap
  obtain⟨e1,e2,W3,hcopy,hL3⟩:=row_put hty HR.out hbel g cap cur hg x cx l HS.out HSN.out hcap hcm hcs htk hgF
  rw[HM.out.2.1,<-hml] at hcopy
  rw[HM.out.2.1,<-hml] at hcap
  have hcm1:cap<=9223372036854775807:=by unfold maxLen at hcm;omega
  obtain⟨W2,hW2⟩:∃ W2,W2=w1.setCell ⟨b,1,none⟩ (.slice (some ⟨g,0,none⟩) (q+m) cap):=⟨_,rfl⟩
  rw[<-hW2] at hcopy
  rw[c1] at e1
  have hst:(Instr.storeAt 22 (.pointer (some ⟨b,1,none⟩)) (.slice (some ⟨g,0,none⟩) (q+m) cap)).run Tryz.prog w1=.ok () W2:=by
   rw[hW2];simp[Instr.storeAt,Instr.sureAddr,e1,e2,go_sem]
  have k1:W2.cell? ⟨b,1,none⟩=some (.slice (some ⟨g,0,none⟩) (q+m) cap):=by rw[hW2];simp[e1,go_sem]
  obtain⟨HE,k2,k3,_⟩:=HEND.out W3 hL3
  have HST:Hid ((Instr.storeAt 22 (.pointer (some ⟨b,1,none⟩)) (.slice (some ⟨g,0,none⟩) (q+m) cap)).run Tryz.prog w1=.ok () W2):=hst
  have HE2:Hid (Left (RowB ty R) w F b (bs++bitsOf l) (W3.setCell ⟨b,2,none⟩ (.int .i64 (L2:Int)))):=HE
  have hPq:=HM.out.2.1
  rw[hPq]
  have hqm1:q<=q+m:=by omega
  have hqm2:q+m-q=m:=by omega
  clear hst hL3 hW2 HE hvv hbel hg hcm hcs htk hgF HFF
  by_cases hcq:cap=q
  ·subst hcq
   obtain rfl:m=0:=by omega
   have hl0:l=[]:=List.eq_nil_of_length_eq_zero hml.symm
   have HCP:Hid ((Builtin.copy_ #[22,22] 3 #[.slice (some ⟨g,0,none⟩) 0 0,.slice x 0 cx]).run Tryz.prog W2=.ok (.int .i64 0) W3):=hcopy _ (.inr ⟨hl0,rfl⟩)
   clear hcopy hl0 hml hPq
   have hLL:L2=L:=by have:=HM.out.2.2.2;omega
   subst hLL
   go_wp2_with (first|refine wpList_copy_run rfl _ _ 22 rfl _ _ _ rfl rfl HCP.out ?_|refine wpList_bstore_run rfl 22 _ _ rfl _ _ rfl rfl HST.out ?_)
   go_end0
   exact⟨⟨_,rfl⟩,HE2.out⟩
  ·have HCP:Hid ((Builtin.copy_ #[22,22] 3 #[.slice (some ⟨g,q,none⟩) m (cap-q),.slice x m cx]).run Tryz.prog W2=.ok (.int .i64 (m:Int)) W3):=hcopy _ (.inl rfl)
   clear hcopy hml hPq
   go_wp2_with (first|refine wpList_copy_run rfl _ _ 22 rfl _ _ _ rfl rfl HCP.out ?_|refine wpList_bstore_run rfl 22 _ _ rfl _ _ rfl rfl HST.out ?_)
   go_end0
   exact⟨⟨_,rfl⟩,HE2.out⟩
theorem wstands_yes (w:World)(b:Nat)(h:w.cell? ⟨b,0,none⟩=some (.bool true)):Calls Tryz.prog 82 #[.pointer (some ⟨b,0,none⟩)] w λe w'=>e=.returned (.bool true)/\w'=w:=by
 go_enter Tryz.func82,Tryz.ntmps82
 go_wp2
 go_ret
 exact⟨rfl,rfl⟩
theorem rstands_yes (w:World)(b:Nat)(h:w.cell? ⟨b,0,none⟩=some (.bool true)):Calls Tryz.prog 76 #[.pointer (some ⟨b,0,none⟩)] w λe w'=>e=.returned (.bool true)/\w'=w:=by
 go_enter Tryz.func76,Tryz.ntmps76
 go_wp2
 go_ret
 exact⟨rfl,rfl⟩
def isW (W:Int):Bool:=decide (0<=W/\W<=64)
theorem isWidth_ok (w:World)(W:Int):Calls Tryz.prog 150 #[.int .i64 W] w λe w'=>e=.returned (.bool (isW W))/\w'=w:=by
 by_cases h0:0<=W
 ·by_cases h1:W<=64
  ·have e:isW W=true:=by simp[isW,h0,h1]
   rw[e]
   go_enter Tryz.func150,Tryz.ntmps150
   go_wp2
   go_ret
   exact⟨rfl,rfl⟩
  ·have e:isW W=false:=by simp[isW,h1]
   rw[e]
   go_enter Tryz.func150,Tryz.ntmps150
   go_wp2
   go_ret
   exact⟨rfl,rfl⟩
 ·have e:isW W=false:=by simp[isW,h0]
  rw[e]
  go_enter Tryz.func150,Tryz.ntmps150
  go_wp2
  go_ret
  exact⟨rfl,rfl⟩
theorem wnew_ok (w:World):Calls Tryz.prog 44 #[] w λe w'=>∃ b F,e=.returned (.pointer (some ⟨b,0,none⟩))/\RowB 146 [] w' b [] F/\Below w.heap.size w w'/\∀ k,F k->w.heap.size<=k:=by
 have HE:Hid (RowB 146 [] (w.alloc (.cells #[.bool true,.slice none 0 0,.int .i64 0] 146)) w.heap.size [] (λk=>k=w.heap.size)/\Below w.heap.size w (w.alloc (.cells #[.bool true,.slice none 0 0,.int .i64 0] 146))):=
  ⟨⟨.slice none 0 0,heap_alloc_new w _,⟨rfl,.inl ⟨rfl,rfl⟩⟩,rfl,(λk hk=>by simp[Value.ownBlock] at hk),λk hk=>by rw[hk];simp⟩,(Below.refl _ w).alloc (Nat.le_refl _) _⟩
 go_enter Tryz.func44,Tryz.ntmps44
 go_wp2
 go_ret
 exact⟨w.heap.size,λk=>k=w.heap.size,rfl,HE.out.1,HE.out.2,λk hk=>by rw[hk];exact Nat.le_refl _⟩
theorem wdone_ok (w:World)(b:Nat)(bs:List Bool)(F:Nat->Prop)(h:RowB 146 [] w b bs F)(hl:bs.length<=8192):
  Calls Tryz.prog 47 #[.pointer (some ⟨b,0,none⟩)] w λe w'=>∃ d cd r,Hid (r=packL bs)/\e=.returned (.slice d r.length cd)/\Sees w' d cd r/\Below w.heap.size w w':=by
 obtain⟨d,cd,c0,c1,c2,_,hs,hd,_⟩:=h.reads
 simp only at c1 hs
 obtain⟨P,hP⟩:∃ P,P=packL bs:=⟨_,rfl⟩
 rw[<-hP] at c1 hs
 have hPl:P.length<=1024:=by rw[hP,packL_length];omega
 have hst:=wstands_yes w b c0
 have hpart:=λm=>part_ok P (w.drewN m) b d cd c1 (hs.drewN m) hd (by omega) 0 P.length (by omega)
 have hpk:packL (nextB P 0 (8*P.length))=P:=by
  have:=part_even P 0 P.length (by omega)
  simpa using this
 rw[hpk] at hpart
 have HP:Hid (P=packL bs):=hP
 have HK:Hid (∀ w',Below w.heap.size (w.drewN 1) w'->w'.cell? ⟨b,1,none⟩=some (.slice d P.length cd)):=λw' hb=>by
  have hc:(w.drewN 1).cell? ⟨b,1,none⟩=some (.slice d P.length cd):=c1
  rw[hb.cell (p:=⟨b,1,none⟩) (World.block_lt_of_cell? _ _ hc)];exact hc
 clear h hP hs hd c2 hpk
 go_enter Tryz.func47,Tryz.ntmps47
 go_wp2_with fail
 refine hst.mono ?_
 rintro e w1 ⟨rfl,rfl⟩
 clear hst
 have HPART:=hpart 1
 clear hpart
 go_wp2
 go_region_held3 (λw'=>w'.cell? ⟨b,1,none⟩=some (.slice d P.length cd))
  (first|go_keep|exact HK.out _ hb9)
  (first|(go_at_call 83;refine HPART.mono ?_;rintro e w9 ⟨cc,r,hr,rfl,hs9,hb9⟩))
 go_wp2
 go_ret
 exact⟨_,cc,r,by rw[<-HP.out];exact hr,rfl,hs9,⟨hb9.os,hb9.tape,hb9.output,hb9.size,hb9.block⟩⟩
theorem wput_ok (w:World)(b:Nat)(bs:List Bool)(F:Nat->Prop)(n:Nat)(W:Int)(h:RowB 146 [] w b bs F)(hn:n<18446744073709551616)(hk:bs.length<=8192):
  Calls Tryz.prog 121 #[.pointer (some ⟨b,0,none⟩),.int .u64 (n:Int),.int .i64 W] w λe w'=>e=.returned (.int .i64 (putP bs.length n W:Nat))/\Left (RowB 146 []) w F b (putB bs n W) w':=by
 obtain⟨d,cd,c0,c1,c2,_⟩:=h.reads
 simp only at c2
 have hst:=wstands_yes w b c0
 have hwd:=isWidth_ok w W
 have hsame:Left (RowB 146 []) w F b bs w:=⟨F,h,Apart.refl _ _,λ_ h=>.inl h⟩
 by_cases h0:isW W=true
 ·rw[h0] at hwd
  obtain⟨V,rfl⟩:∃ V:Nat,W=(V:Int):=⟨W.toNat,by simp[isW] at h0;omega⟩
  have hV:V<=64:=by simp[isW] at h0;omega
  have m1:min V 64=V:=by omega
  obtain⟨N,hN⟩:∃ N,N=n/2^V:=⟨_,rfl⟩
  have dN:(n:Int)/2^V=(N:Int):=by rw[hN];simp
  by_cases h1:N=0
  ·have hlt:n<2^V:=by
    rw[hN] at h1
    rcases Nat.lt_or_ge n (2^V) with h|h
    ·exact h
    ·have:=Nat.div_pos h (Nat.two_pow_pos V);omega
   subst h1
   obtain⟨L,hL⟩:∃ L,L=bs.length:=⟨_,rfl⟩
   by_cases h2:8192<bs.length+V
   ·have e1:putP bs.length n (V:Int)=2:=by unfold putP;rw[if_neg (by simp;omega),if_pos (by simpa using h2)]
    have e2:putB bs n (V:Int)=bs:=by unfold putB;rw[e1];rfl
    rw[e1,e2]
    rw[<-hL] at c2 h2 hk
    have g1:¬ ((V:Int)<=8192-(L:Int)):=by omega
    clear h hN hL e1 e2 c0 c1
    go_enter Tryz.func121,Tryz.ntmps121
    go_wp2_with fail
    refine hst.mono ?_
    rintro e w1 ⟨rfl,rfl⟩
    go_wp2_with fail
    refine hwd.mono ?_
    rintro e w1 ⟨rfl,rfl⟩
    clear hst hwd
    go_wp2
    go_ret
    exact⟨rfl,hsame⟩
   ·have e1:putP bs.length n (V:Int)=0:=by unfold putP;rw[if_neg (by simp;omega),if_neg (by simpa using h2)]
    have e2:putB bs n (V:Int)=bs++bitsN n V:=by unfold putB;rw[e1];rfl
    have hadd:=add_ok 146 [] (by decide) w b bs F h n V hn hV (by omega)
    rw[e1,e2]
    rw[<-hL] at c2 h2 hk
    clear h hN hL e1 e2 c0 c1 hsame hlt
    go_enter Tryz.func121,Tryz.ntmps121
    go_wp2_with fail
    refine hst.mono ?_
    rintro e w1 ⟨rfl,rfl⟩
    go_wp2_with fail
    refine hwd.mono ?_
    rintro e w1 ⟨rfl,rfl⟩
    clear hst hwd
    go_wp2_with fail
    refine hadd.mono ?_
    rintro e w1 ⟨⟨r,rfl⟩,HL⟩
    clear hadd
    go_wp2
    go_ret
    exact⟨rfl,HL⟩
  ·have hge:¬ n<2^V:=by intro h;rw[hN,Nat.div_eq_of_lt h] at h1;exact h1 rfl
   have e1:putP bs.length n (V:Int)=1:=by unfold putP;rw[if_pos (.inr (.inr (by simpa using hge)))]
   have e2:putB bs n (V:Int)=bs:=by unfold putB;rw[e1];rfl
   rw[e1,e2]
   have d1:((N:Int)==0)=false:=by simp[h1]
   clear h hN e1 e2 c0 c1 hge
   go_enter Tryz.func121,Tryz.ntmps121
   go_wp2_with fail
   refine hst.mono ?_
   rintro e w1 ⟨rfl,rfl⟩
   go_wp2_with fail
   refine hwd.mono ?_
   rintro e w1 ⟨rfl,rfl⟩
   clear hst hwd
   go_wp2
   go_ret
   exact⟨rfl,hsame⟩
 ·have h0':isW W=false:=by simpa using h0
  rw[h0'] at hwd
  have e1:putP bs.length n W=1:=by
   unfold putP
   rw[if_pos]
   simp[isW] at h0
   omega
  have e2:putB bs n W=bs:=by unfold putB;rw[e1];rfl
  rw[e1,e2]
  clear h e1 e2 c0 c1 h0 h0'
  go_enter Tryz.func121,Tryz.ntmps121
  go_wp2_with fail
  refine hst.mono ?_
  rintro e w1 ⟨rfl,rfl⟩
  go_wp2_with fail
  refine hwd.mono ?_
  rintro e w1 ⟨rfl,rfl⟩
  clear hst hwd
  go_wp2
  go_ret
  exact⟨rfl,hsame⟩
theorem wbytes_ok (w:World)(b:Nat)(bs:List Bool)(F:Nat->Prop)(x:Option Addr)(cx:Nat)(l:List UInt8)(h:RowB 146 [] w b bs F)(hs:Sees w x cx l)(hsn:∀ b off,x=some ⟨b,off,none⟩->l≠[]->¬ F b)(hk:bs.length<=8192):
  Calls Tryz.prog 122 #[.pointer (some ⟨b,0,none⟩),.slice x l.length cx] w λe w'=>e=.returned (.int .i64 (bytesP bs.length l.length:Nat))/\Left (RowB 146 []) w F b (bytesB bs l) w':=by
 obtain⟨d,cd,c0,c1,c2,_⟩:=h.reads
 simp only at c2
 have hst:=wstands_yes w b c0
 have hsame:Left (RowB 146 []) w F b bs w:=⟨F,h,Apart.refl _ _,λ_ h=>.inl h⟩
 obtain⟨L,hL⟩:∃ L,L=bs.length:=⟨_,rfl⟩
 obtain⟨q,hq⟩:∃ q,q=(8192-L)/8:=⟨_,rfl⟩
 have q1:(8192-(L:Int))/8=(q:Int):=by omega
 have q2:(8192-(L:Int)).tdiv 8=(q:Int):=by rw[Int.tdiv_eq_ediv_of_nonneg (by omega)];exact q1
 have hlm:l.length<=9223372036854775807:=by have:=hs.fits;have:=hs.room;unfold maxLen at this;omega
 rw[<-hL] at c2
 by_cases h2:l.length<=q
 ·have e1:bytesP bs.length l.length=0:=by unfold bytesP;rw[if_neg (by omega)]
  have e2:bytesB bs l=bs++bitsOf l:=by unfold bytesB;rw[e1];rfl
  have hw:Calls Tryz.prog 72 #[.pointer (some ⟨b,0,none⟩),.slice x l.length cx] w λe w'=>(∃ r,e=.returned r)/\Left (RowB 146 []) w F b (bs++bitsOf l) w':=by
   by_cases hu:bs.length%8=0
   ·exact write_even 146 [] (by decide) w b bs F h x cx l hs hsn (bs.length/8) (by omega) (by omega)
   ·exact write_odd 146 [] (by decide) w b bs F h x cx l hs hsn hu (by omega)
  rw[e1,e2]
  have hLm:L<=8192:=by omega
  clear h hs hsn hq hL e1 e2 c0 c1 hsame
  go_enter Tryz.func122,Tryz.ntmps122
  go_wp2_with fail
  refine hst.mono ?_
  rintro e w1 ⟨rfl,rfl⟩
  clear hst
  go_wp2_with fail
  refine hw.mono ?_
  rintro e w1 ⟨⟨r,rfl⟩,HL⟩
  clear hw
  go_wp2
  go_ret
  exact⟨rfl,HL⟩
 ·have e1:bytesP bs.length l.length=2:=by unfold bytesP;rw[if_pos (by omega)]
  have e2:bytesB bs l=bs:=by unfold bytesB;rw[e1];rfl
  rw[e1,e2]
  have hLm:L<=8192:=by omega
  clear h hs hsn hq hL e1 e2 c0 c1
  go_enter Tryz.func122,Tryz.ntmps122
  go_wp2_with fail
  refine hst.mono ?_
  rintro e w1 ⟨rfl,rfl⟩
  clear hst
  go_wp2
  go_ret
  exact⟨rfl,hsame⟩
def RdM (l:List UInt8)(w:World)(b at_:Nat)(F:Nat->Prop):Prop:=RowP 140 [.int .i64 (at_:Int)] w b (8*l.length,l) F
theorem rd_kept (l:List UInt8):Kept (RdM l) where
 lt:=λh=>(rowP_kept 140 _).lt h
 keep:=λh hk=>(rowP_kept 140 _).keep h hk
theorem RdM.reads {l:List UInt8}{w:World}{b at_:Nat}{F:Nat->Prop}(h:RdM l w b at_ F):
  ∃ d cd, w.cell? ⟨b, 0, none⟩ = some (.bool true) ∧ w.cell? ⟨b, 1, none⟩ = some (.slice d l.length cd) ∧ w.cell? ⟨b, 2, none⟩ = some (.int .i64 ((8 * l.length : Nat) : Int)) ∧ w.cell? ⟨b, 3, none⟩ = some (.int .i64 (at_ : Int)) ∧
    w.frozen? ⟨b, 3, none⟩ = false ∧ Sees w d cd l ∧ (d = none ∨ ∃ g o, d = some ⟨g, o, none⟩) := by
 obtain⟨d,cd,c0,c1,c2,fz,hs,hd,_⟩:=RowP.reads h
 obtain⟨v,h1,_⟩:=h
 exact⟨d,cd,c0,c1,c2,cell_of_row _ _ 3 _ _ _ h1,fz 3,hs,hd⟩
theorem RdM.moved {l:List UInt8}{w:World}{b at_:Nat}{F:Nat->Prop}(h:RdM l w b at_ F)(m:Nat):RdM l (w.setCell ⟨b,3,none⟩ (.int .i64 (m:Int))) b m F:=by
 obtain⟨v,h1,h2,h3,h4,h5⟩:=h
 refine⟨v,by rw[heap_setCell_same _ _ _ _ _ _ h1];rfl,?_,h3,h4,λk hk=>by simpa using h5 k hk⟩
 refine⟨h2.1,?_⟩
 rcases h2.2 with h0|⟨q,cap,cur,rfl,hlow,hq,h7⟩
 ·exact .inl h0
 ·refine .inr ⟨q,cap,cur,rfl,hlow,?_,h7⟩
  rw[heap_setCell_other _ _ _ _ (by rintro rfl;rw[h1] at hq;simp at hq)];exact hq
def Stay {σ:Type}(M:World->Nat->σ->(Nat->Prop)->Prop)(w:World)(F:Nat->Prop)(b:Nat)(s:σ)(w':World):Prop:=M w' b s F/\Apart F w w'
theorem RdM.left {l:List UInt8}{w w':World}{b at_:Nat}{F:Nat->Prop}(h:RdM l w b at_ F)(hb:Below w.heap.size w w')(m:Nat):Stay (RdM l) w F b m (w'.setCell ⟨b,3,none⟩ (.int .i64 (m:Int))):=
 ⟨((rd_kept l).below h hb).moved m,(Apart.of_below hb).setCell (.inl (by obtain⟨_,_,_,h3,_⟩:=h;exact h3)) 3 _⟩
theorem RdM.same {l:List UInt8}{w:World}{b at_:Nat}{F:Nat->Prop}(h:RdM l w b at_ F)(m:Nat):Stay (RdM l) w F b at_ (w.drewN m):=
 ⟨(rd_kept l).keep h (λ_ _=>rfl),⟨rfl,rfl,rfl,Nat.le_refl _,λ_ _ _=>rfl⟩⟩
theorem rdnew_ok (w:World)(x:Option Addr)(cx:Nat)(l:List UInt8)(hs:Sees w x cx l)(hl:l.length<=140737488355328):
  Calls Tryz.prog 39 #[.slice x l.length cx] w λe w'=>∃ b F,e=.returned (.pointer (some ⟨b,0,none⟩))/\RdM l w' b 0 F/\Below w.heap.size w w'/\∀ k,F k->w.heap.size<=k:=by
 obtain⟨w1,hw1⟩:∃ w1,w1=w.alloc (.cells #[.bool true,.slice none 0 0,.int .i64 0,.int .i64 0] 140):=⟨_,rfl⟩
 have hb1:Below w.heap.size w w1:=by rw[hw1];exact(Below.refl _ w).alloc (Nat.le_refl _) _
 have hR:RowB 140 [.int .i64 ((0:Nat):Int)] w1 w.heap.size [] (λk=>k=w.heap.size):=by
  rw[hw1]
  exact⟨.slice none 0 0,heap_alloc_new w _,⟨rfl,.inl ⟨rfl,rfl⟩⟩,rfl,(λk hk=>by simp[Value.ownBlock] at hk),λk hk=>by rw[hk];simp⟩
 have hw:=write_even 140 [.int .i64 ((0:Nat):Int)] (by decide) w1 w.heap.size [] _ hR x cx l (hs.below hb1) (by
  rintro b off rfl hne e
  obtain⟨b1,o1,he,hc⟩:=hs.at' hne
  simp only[Option.some.injEq,Addr.mk.injEq] at he
  obtain⟨z,hz⟩:∃ z,l[0]?=some z:=⟨l[0]'(List.length_pos_iff.2 hne),by simp⟩
  have:=World.block_lt_of_cell? w _ (hc 0 z hz)
  have e2:b=w.heap.size:=e
  simp only at this
  omega) 0 rfl (by omega)
 have HW:Hid (Calls Tryz.prog 72 #[.pointer (some ⟨w.heap.size,0,none⟩),.slice x l.length cx] (w.alloc (.cells #[.bool true,.slice none 0 0,.int .i64 0,.int .i64 0] 140)) λe w'=>(∃ r,e=.returned r)/\∃ F,RdM l w' w.heap.size 0 F/\Below w.heap.size w w'/\∀ k,F k->w.heap.size<=k):=by
  rw[<-hw1]
  refine hw.mono ?_
  rintro e w' ⟨he,F,hM,hap,hF⟩
  refine⟨he,F,?_,hap.below hb1 (λk hk=>by rw[hk];exact Nat.le_refl _) hb1.size,λk hk=>?_⟩
  ·unfold RowB at hM
   rw[List.nil_append,bitsOf_length,packL_bytes] at hM
   exact hM
  ·have:=hb1.size
   rcases hF k hk with h|h
   ·exact Nat.le_of_eq h.symm
   ·omega
 clear hw hR hb1 hw1 hs
 go_enter Tryz.func39,Tryz.ntmps39
 go_wp2_with fail
 refine HW.out.mono ?_
 rintro e w2 ⟨⟨r,rfl⟩,F,hM,hbel,hF⟩
 go_wp2
 go_ret
 exact⟨w.heap.size,F,rfl,hM,hbel,hF⟩
theorem rdleft_ok (l:List UInt8)(w:World)(b at_:Nat)(F:Nat->Prop)(h:RdM l w b at_ F)(hl:l.length<=140737488355328)(hat:at_<=8*l.length):
  Calls Tryz.prog 77 #[.pointer (some ⟨b,0,none⟩)] w λe w'=>e=.returned (.int .i64 ((8*l.length-at_:Nat):Int))/\∃ m,w'=w.drewN m:=by
 obtain⟨d,cd,c0,c1,c2,c3,_⟩:=h.reads
 have hst:=rstands_yes w b c0
 obtain⟨R,hR⟩:∃ R,R=8*l.length-at_:=⟨_,rfl⟩
 obtain⟨S,hS⟩:∃ S,S=8*l.length:=⟨_,rfl⟩
 rw[<-hR]
 rw[<-hS] at c2
 have e1:(S:Int)-(at_:Int)=(R:Int):=by omega
 have hSm:S<=1125899906842624:=by omega
 have hR2:at_<=S:=by omega
 clear h hR hS c0 c1
 go_enter Tryz.func77,Tryz.ntmps77
 go_wp2_with fail
 refine hst.mono ?_
 rintro e w1 ⟨rfl,rfl⟩
 clear hst
 go_wp2
 go_quiet (fail)
 go_wp2
 go_ret
 exact⟨rfl,_,rfl⟩
theorem drewN_add (w:World)(m k:Nat):(w.drewN m).drewN k=w.drewN (m+k):=by
 simp[World.drewN,Nat.add_assoc]
theorem rdget_ok (l:List UInt8)(w:World)(b at_:Nat)(F:Nat->Prop)(h:RdM l w b at_ F)(hl:l.length<=140737488355328)(W:Int)(hat:at_<=8*l.length):
  Calls Tryz.prog 112 #[.pointer (some ⟨b,0,none⟩),.int .i64 W] w λe w'=>e=.returned (.tuple #[.int .u64 ((getN l at_ W:Nat):Int),.int .i64 ((getP (8*l.length-at_) W:Nat):Int)])/\Stay (RdM l) w F b (getAt l at_ W) w':=by
 obtain⟨d,cd,c0,c1,c2,c3,f3,hs,hd⟩:=h.reads
 have hst:=rstands_yes w b c0
 have hwd:=isWidth_ok w W
 have hlf:=rdleft_ok l w b at_ F h hl hat
 obtain⟨R,hR⟩:∃ R,R=8*l.length-at_:=⟨_,rfl⟩
 rw[<-hR] at hlf ⊢
 have hRm:R<=1125899906842624:=by omega
 have hsame:∀ m,Stay (RdM l) w F b at_ (w.drewN m):=λm=>h.same m
 by_cases h0:isW W=true
 ·rw[h0] at hwd
  obtain⟨V,rfl⟩:∃ V:Nat,W=(V:Int):=⟨W.toNat,by simp[isW] at h0;omega⟩
  have hV:V<=64:=by simp[isW] at h0;omega
  by_cases h1:V<=R
  ·have e1:getP R (V:Int)=0:=by unfold getP;rw[if_neg (by omega),if_neg (by omega)]
   have e2:getN l at_ (V:Int)=num (nextB l at_ V):=by unfold getN;rw[<-hR,e1];rfl
   have e3:getAt l at_ (V:Int)=at_+V:=by unfold getAt;rw[<-hR,e1];rfl
   rw[e1,e2,e3]
   obtain⟨T,hT⟩:∃ T,T=num (nextB l at_ V):=⟨_,rfl⟩
   rw[<-hT]
   have HNUM:Hid (∀ k,Calls Tryz.prog 78 #[.pointer (some ⟨b,0,none⟩),.int .i64 (at_:Int),.int .i64 (V:Int)] (w.drewN k) λe w'=>e=.returned (.int .u64 (T:Int))/\∃ m,w'=w.drewN m):=λk=>by
    rw[hT]
    refine(number_ok l (w.drewN k) b d cd c1 (hs.drewN k) hl at_ V hV (by omega)).mono ?_
    rintro e w' ⟨rfl,m,rfl⟩
    exact⟨rfl,k+m,drewN_add w k m⟩
   have HE:Hid (∀ m,Stay (RdM l) w F b (at_+V) ((w.drewN m).setCell ⟨b,3,none⟩ (.int .i64 ((at_+V:Nat):Int)))):=λm=>h.left (below_drewN (Below.refl _ _) m) (at_+V)
   have HC:Hid (∀ m,(w.drewN m).cell? ⟨b,3,none⟩=some (.int .i64 (at_:Int))/\(w.drewN m).frozen? ⟨b,3,none⟩=false):=λm=>⟨c3,f3⟩
   have hVs:at_+V<=1125899906842624:=by omega
   clear h hs hd c0 c1 c2 hsame hR hT e1 e2 e3 h0 hat
   go_enter Tryz.func112,Tryz.ntmps112
   go_wp2_with fail
   refine hst.mono ?_
   rintro e w1 ⟨rfl,hw1⟩
   subst hw1
   go_wp2_with fail
   refine hwd.mono ?_
   rintro e w1 ⟨rfl,hw1⟩
   subst hw1
   go_wp2_with fail
   refine hlf.mono ?_
   rintro e w2 ⟨rfl,m,hw2⟩
   clear hst hwd hlf c3 f3
   obtain⟨c3,f3⟩:=HC.out m
   have HN2:=HNUM.out (m+1)
   rw[<-hw2] at c3 f3
   rw[<-drewN_add,<-hw2] at HN2
   clear hw2 HNUM
   go_wp2
   go_region_held3 (λw'=>w'.cell? ⟨b,3,none⟩=some (.int .i64 (at_:Int)))
    (first|go_keep|exact(HC.out _).1)
    (first|(go_at_call 78;refine HN2.mono ?_;rintro e w9 ⟨rfl,m9,rfl⟩;obtain⟨c9,f9⟩:=HC.out m9))
   go_wp2
   go_ret2
   exact⟨rfl,HE.out _⟩
  ·have e1:getP R (V:Int)=3:=by unfold getP;rw[if_neg (by omega),if_pos (by omega)]
   have e2:getN l at_ (V:Int)=0:=by unfold getN;rw[<-hR,e1];rfl
   have e3:getAt l at_ (V:Int)=at_:=by unfold getAt;rw[<-hR,e1];rfl
   rw[e1,e2,e3]
   clear h hs hd c0 c1 c2 c3 f3 hR e1 e2 e3 h0 hat
   go_enter Tryz.func112,Tryz.ntmps112
   go_wp2_with fail
   refine hst.mono ?_
   rintro e w1 ⟨rfl,hw1⟩
   subst hw1
   go_wp2_with fail
   refine hwd.mono ?_
   rintro e w1 ⟨rfl,hw1⟩
   subst hw1
   go_wp2_with fail
   refine hlf.mono ?_
   rintro e w2 ⟨rfl,m,rfl⟩
   clear hst hwd hlf
   go_wp2
   go_ret2
   exact⟨rfl,hsame m⟩
 ·have h0':isW W=false:=by simpa using h0
  rw[h0'] at hwd
  have e1:getP R W=1:=by unfold getP;rw[if_pos];simp[isW] at h0;omega
  have e2:getN l at_ W=0:=by unfold getN;rw[<-hR,e1];rfl
  have e3:getAt l at_ W=at_:=by unfold getAt;rw[<-hR,e1];rfl
  rw[e1,e2,e3]
  clear h hs hd c0 c1 c2 c3 f3 hR e1 e2 e3 h0 h0' hat hlf
  go_enter Tryz.func112,Tryz.ntmps112
  go_wp2_with fail
  refine hst.mono ?_
  rintro e w1 ⟨rfl,hw1⟩
  subst hw1
  go_wp2_with fail
  refine hwd.mono ?_
  rintro e w1 ⟨rfl,hw1⟩
  subst hw1
  clear hst hwd
  go_wp2
  go_ret2
  exact⟨rfl,hsame 0⟩
theorem rdtake_fresh (l:List UInt8)(w:World)(b at_:Nat)(F:Nat->Prop)(h:RdM l w b at_ F)(hl:l.length<=140737488355328)(n:Int)(hat:at_<=8*l.length):
  Calls Tryz.prog 113 #[.pointer (some ⟨b,0,none⟩),.int .i64 n] w λe w'=>∃ d cd r,Hid (r=takeL l at_ n)/\e=.returned (.tuple #[.slice d r.length cd,.int .i64 ((takeP (8*l.length-at_) n:Nat):Int)])/\Sees w' d cd r/\Stay (RdM l) w F b (takeAt l at_ n) w'/\∀ g o,d=some ⟨g,o,none⟩->w.heap.size<=g:=by
 obtain⟨d,cd,c0,c1,c2,c3,f3,hs,hd⟩:=h.reads
 have hst:=rstands_yes w b c0
 have hlf:=rdleft_ok l w b at_ F h hl hat
 obtain⟨R,hR⟩:∃ R,R=8*l.length-at_:=⟨_,rfl⟩
 rw[<-hR] at hlf ⊢
 have hRm:R<=1125899906842624:=by omega
 have hsame:∀ m,Stay (RdM l) w F b at_ (w.drewN m):=λm=>h.same m
 by_cases hbad:n<0\/1024<n
 ·have e1:takeP R n=1:=by unfold takeP;rw[if_pos hbad]
  have e2:takeL l at_ n=[]:=by unfold takeL;rw[<-hR,e1];rfl
  have e3:takeAt l at_ n=at_:=by unfold takeAt;rw[<-hR,e1];rfl
  rw[e1,e2,e3]
  clear h hs hd c0 c1 c2 c3 f3 hR e1 e2 e3 hat hlf
  by_cases hneg:n<0
  ·clear hbad
   go_enter Tryz.func113,Tryz.ntmps113
   go_wp2_with fail
   refine hst.mono ?_
   rintro e w1 ⟨rfl,hw1⟩
   subst hw1
   clear hst
   go_wp2
   go_ret2
   exact⟨none,0,[],rfl,rfl,Sees.nil' _,hsame 0,λ_ _ h=>by cases h⟩
  ·have hbig:1024<n:=by omega
   clear hbad
   go_enter Tryz.func113,Tryz.ntmps113
   go_wp2_with fail
   refine hst.mono ?_
   rintro e w1 ⟨rfl,hw1⟩
   subst hw1
   clear hst
   go_wp2
   go_ret2
   exact⟨none,0,[],rfl,rfl,Sees.nil' _,hsame 0,λ_ _ h=>by cases h⟩
 ·obtain⟨V,rfl⟩:∃ V:Nat,n=(V:Int):=⟨n.toNat,by omega⟩
  have hV:V<=1024:=by omega
  by_cases h1:8*V<=R
  ·have e1:takeP R (V:Int)=0:=by unfold takeP;rw[if_neg (by omega),if_neg (by omega)]
   have e2:takeL l at_ (V:Int)=packL (nextB l at_ (8*V)):=by unfold takeL;rw[<-hR,e1];rfl
   have e3:takeAt l at_ (V:Int)=at_+8*V:=by unfold takeAt;rw[<-hR,e1];rfl
   rw[e1,e2,e3]
   have HPART:Hid (∀ k,Calls Tryz.prog 83 #[.pointer (some ⟨b,0,none⟩),.int .i64 (at_:Int),.int .i64 (V:Int)] (w.drewN k) λe w'=>∃ cc r,Hid (r=packL (nextB l at_ (8*V)))/\e=.returned (.slice (some ⟨w.heap.size,0,none⟩) r.length cc)/\Sees w' (some ⟨w.heap.size,0,none⟩) cc r/\Below w.heap.size w w'):=λk=>by
    refine(part_ok l (w.drewN k) b d cd c1 (hs.drewN k) hd hl at_ V (by omega)).mono ?_
    rintro e w' ⟨cc,r,hr,he,hs',hb⟩
    exact⟨cc,r,hr,he,hs',⟨hb.os,hb.tape,hb.output,hb.size,hb.block⟩⟩
   obtain⟨A2,hA2⟩:∃ A2,A2=at_+8*V:=⟨_,rfl⟩
   have HE:Hid (∀ w',Below w.heap.size w w'->Stay (RdM l) w F b (at_+8*V) (w'.setCell ⟨b,3,none⟩ (.int .i64 (A2:Int)))/\w'.cell? ⟨b,3,none⟩=some (.int .i64 (at_:Int))/\w'.frozen? ⟨b,3,none⟩=false):=λw' hb=>by
    have h2:=(rd_kept l).below h hb
    obtain⟨_,_,_,_,_,k3,g3,_⟩:=RdM.reads h2
    exact⟨by rw[hA2];exact h.left hb (at_+8*V),k3,g3⟩
   have HC:Hid (∀ m,(w.drewN m).cell? ⟨b,3,none⟩=some (.int .i64 (at_:Int))/\(w.drewN m).frozen? ⟨b,3,none⟩=false):=λm=>⟨c3,f3⟩
   have hVs:A2<=1125899906842624:=by omega
   have a2:(at_:Int)+8*(V:Int)=(A2:Int):=by omega
   have HB:Hid (b<w.heap.size):=World.block_lt_of_cell? w _ c0
   have HF:Hid (F b):=by obtain⟨_,_,_,h3,_⟩:=h;exact h3
   clear h hs hd c0 c1 c2 hsame hR e1 e2 e3 hat hbad hA2
   go_enter Tryz.func113,Tryz.ntmps113
   go_wp2_with fail
   refine hst.mono ?_
   rintro e w1 ⟨rfl,hw1⟩
   subst hw1
   go_wp2_with fail
   refine hlf.mono ?_
   rintro e w2 ⟨rfl,m,hw2⟩
   clear hst hlf c3 f3
   obtain⟨c3,f3⟩:=HC.out m
   have HN2:=HPART.out (m+1)
   rw[<-hw2] at c3 f3
   rw[<-drewN_add,<-hw2] at HN2
   clear hw2 HPART
   go_wp2
   go_region_held3 (λw'=>w'.cell? ⟨b,3,none⟩=some (.int .i64 (at_:Int)))
    (first|go_keep|exact(HE.out _ hb9).2.1)
    (first|(go_at_call 83;refine HN2.mono ?_;rintro e w9 ⟨cc,r,hr,rfl,hs9,hb9⟩;obtain⟨_,c9,f9⟩:=HE.out w9 hb9))
   go_wp2
   go_ret2
   refine⟨_,cc,r,hr,rfl,?_,(HE.out w9 hb9).1,λg o he=>by simp only[Option.some.injEq,Addr.mk.injEq] at he;omega⟩
   refine((Apart.refl (λk=>k=b) w9).setCell (.inl rfl) 3 _).sees hs9 (λb' off he _ hb'=>?_)
   have h1:=HB.out
   simp only[Option.some.injEq,Addr.mk.injEq] at he
   omega
  ·have e1:takeP R (V:Int)=3:=by unfold takeP;rw[if_neg (by omega),if_pos (by omega)]
   have e2:takeL l at_ (V:Int)=[]:=by unfold takeL;rw[<-hR,e1];rfl
   have e3:takeAt l at_ (V:Int)=at_:=by unfold takeAt;rw[<-hR,e1];rfl
   rw[e1,e2,e3]
   clear h hs hd c0 c1 c2 c3 f3 hR e1 e2 e3 hat hbad
   go_enter Tryz.func113,Tryz.ntmps113
   go_wp2_with fail
   refine hst.mono ?_
   rintro e w1 ⟨rfl,hw1⟩
   subst hw1
   go_wp2_with fail
   refine hlf.mono ?_
   rintro e w2 ⟨rfl,m,rfl⟩
   clear hst hlf
   go_wp2
   go_ret2
   exact⟨none,0,[],rfl,rfl,Sees.nil' _,hsame m,λ_ _ h=>by cases h⟩
theorem rdend_ok (l:List UInt8)(w:World)(b at_:Nat)(F:Nat->Prop)(h:RdM l w b at_ F)(hl:l.length<=140737488355328)(hat:at_<=8*l.length):
  Calls Tryz.prog 42 #[.pointer (some ⟨b,0,none⟩)] w λe w'=>e=.returned (.int .i64 ((endP l at_:Nat):Int))/\∃ m,w'=w.drewN m:=by
 obtain⟨d,cd,c0,c1,c2,c3,f3,hs,hd⟩:=h.reads
 have hst:=rstands_yes w b c0
 obtain⟨R,hR⟩:∃ R,R=8*l.length-at_:=⟨_,rfl⟩
 have hRm:R<=1125899906842624:=by omega
 have HLF:Hid (∀ k,Calls Tryz.prog 77 #[.pointer (some ⟨b,0,none⟩)] (w.drewN k) λe w'=>e=.returned (.int .i64 (R:Int))/\∃ m,w'=w.drewN m):=λk=>by
  rw[hR]
  refine(rdleft_ok l (w.drewN k) b at_ F ((rd_kept l).keep h (λ_ _=>rfl)) hl hat).mono ?_
  rintro e w' ⟨rfl,m,rfl⟩
  exact⟨rfl,k+m,drewN_add w k m⟩
 have HC:Hid (∀ m,(w.drewN m).cell? ⟨b,3,none⟩=some (.int .i64 (at_:Int))):=λm=>c3
 have HLF1:Calls Tryz.prog 77 #[.pointer (some ⟨b,0,none⟩)] w.drew λe w'=>e=.returned (.int .i64 (R:Int))/\∃ m,w'=w.drewN m:=HLF.out 1
 by_cases h8:8<=R
 ·have e1:endP l at_=4:=by unfold endP;rw[if_pos (by omega)]
  rw[e1]
  have dR:decide ((8:Int)<=(R:Int))=true:=by simp;omega
  clear h hs hd c0 c1 c2 f3 hR e1 hat h8
  go_enter Tryz.func42,Tryz.ntmps42
  go_wp2_with fail
  refine hst.mono ?_
  rintro e w1 ⟨rfl,hw1⟩
  subst hw1
  clear hst
  go_wp2
  refine wp_region_noPanic ?_
  refine wp_region_held (S:=λw'=>w'.cell? ⟨b,3,none⟩=some (.int .i64 (at_:Int))) (by kernel_rfl) ?_
  have hS:=(show (λw':World=>w'.cell? ⟨b,3,none⟩=some (.int .i64 (at_:Int))) w1.drew from HC.out 1)
  refine tk 0 hS ?_
  refine any_one 1 rfl (by kernel_rfl) (by rfl) (λK hK=>?_)
  clear hS
  go_simp
  refine HLF1.mono ?_
  rintro e w9 ⟨rfl,m9,rfl⟩
  refine hK.out _ _ (HC.out _) (λhS=>?_)
  clear hK
  (try simp only[Act.put,sT])
  refine tk 2 hS ?_
  refine tk 3 hS ?_
  refine tq 4 hS ?_
  refine tq 5 hS ?_
  refine tq 6 hS ?_
  refine tq 7 hS ?_
  refine tq 8 hS ?_
  refine tq 9 hS ?_
  refine tq 10 hS ?_
  refine tq 11 hS ?_
  refine tq 12 hS ?_
  refine tq 13 hS ?_
  refine tq 14 hS ?_
  refine tk 15 hS ?_
  refine wpAnyH_done (by kernel_rfl) ?_ _
  refine NoPanic.normal ?_
  go_wp2
  go_ret
  exact⟨rfl,_,rfl⟩
 ·obtain⟨T,hT⟩:∃ T,T=num (nextB l at_ R):=⟨_,rfl⟩
  have e1:endP l at_=if T=0 then 0 else 4:=by unfold endP;rw[if_neg (by omega),<-hR,<-hT]
  have HNUM:Hid (∀ k,Calls Tryz.prog 78 #[.pointer (some ⟨b,0,none⟩),.int .i64 (at_:Int),.int .i64 (R:Int)] (w.drewN k) λe w'=>e=.returned (.int .u64 (T:Int))/\∃ m,w'=w.drewN m):=λk=>by
   rw[hT]
   refine(number_ok l (w.drewN k) b d cd c1 (hs.drewN k) hl at_ R (by omega) (by omega)).mono ?_
   rintro e w' ⟨rfl,m,rfl⟩
   exact⟨rfl,k+m,drewN_add w k m⟩
  rw[e1]
  have dR:decide ((8:Int)<=(R:Int))=false:=by simp;omega
  clear h hs hd c0 c1 c2 f3 hR e1 hat h8 hT
  by_cases hT0:T=0
  ·subst hT0
   rw[if_pos rfl]
   go_enter Tryz.func42,Tryz.ntmps42
   go_wp2_with fail
   refine hst.mono ?_
   rintro e w1 ⟨rfl,hw1⟩
   subst hw1
   clear hst
   go_wp2
   go_region_held3 (λw'=>w'.cell? ⟨b,3,none⟩=some (.int .i64 (at_:Int)))
    (first|go_keep|exact HC.out _)
    (first|(go_at_call 77;refine HLF1.mono ?_;rintro e w9 ⟨rfl,m9,rfl⟩)|(go_at_call 77;refine(HLF.out _).mono ?_;rintro e w9 ⟨rfl,m8,rfl⟩)|(go_at_call 78;refine(HNUM.out _).mono ?_;rintro e w9 ⟨rfl,m7,rfl⟩))
   go_wp2
   go_ret
   exact⟨rfl,_,rfl⟩
  ·rw[if_neg hT0]
   have dT:((T:Int)==0)=false:=by simp[hT0]
   go_enter Tryz.func42,Tryz.ntmps42
   go_wp2_with fail
   refine hst.mono ?_
   rintro e w1 ⟨rfl,hw1⟩
   subst hw1
   clear hst
   go_wp2
   go_region_held3 (λw'=>w'.cell? ⟨b,3,none⟩=some (.int .i64 (at_:Int)))
    (first|go_keep|exact HC.out _)
    (first|(go_at_call 77;refine HLF1.mono ?_;rintro e w9 ⟨rfl,m9,rfl⟩)|(go_at_call 77;refine(HLF.out _).mono ?_;rintro e w9 ⟨rfl,m8,rfl⟩)|(go_at_call 78;refine(HNUM.out _).mono ?_;rintro e w9 ⟨rfl,m7,rfl⟩))
   go_wp2
   go_ret
   exact⟨rfl,_,rfl⟩
end Go.Proofs.YthogohkieiogiaaGreatDoor
