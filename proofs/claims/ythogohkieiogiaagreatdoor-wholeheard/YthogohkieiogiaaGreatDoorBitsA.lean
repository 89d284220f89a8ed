/-
  The document's writer: its Put.

  The document's writer: its Done.
  The document's reader: its Left and Get.

  The document's reader: its Get with errors, Bytes and End.

  The document's reader: its Bytes and End.
  Frames as bits, and back. No program here.
-/
import Derived.Test.YthogohkieiogiaaGreatDoorRows
import Derived.Test.YthogohkieiogiaaGreatDoorPure
import Derived.Deep.QuietTactic
import Derived.BigQuiet
import Derived.BigRegion
namespace Go.Proofs.YthogohkieiogiaaGreatDoor
set_option maxRecDepth 20000
open Go.ChangeShapes Go.WideShapes Go.ChangeAt Go.RowKit
def putP (k n:Nat)(W:Int):Nat:=if W<0\/64<W\/¬ n<2^W.toNat then 1 else if 8192<k+W.toNat then 2 else 0
def putB (bs:List Bool)(n:Nat)(W:Int):List Bool:=if putP bs.length n W=0 then bs++bitsN n W.toNat else bs
def bytesP (k m:Nat):Nat:=if 1024<m\/8192<k+8*m then 2 else 0
def bytesB (bs:List Bool)(l:List UInt8):List Bool:=if bytesP bs.length l.length=0 then bs++bitsOf l else bs
theorem bit_mod (n j:Nat):n/2^j%2=(n.testBit j).toNat:=by
 rw[Nat.testBit_eq_decide_div_mod_eq]
 rcases Nat.mod_two_eq_zero_or_one (n/2^j) with h|h<;>simp[h]
def nextB (l:List UInt8)(at_ k:Nat):List Bool:=((bitsOf l).drop at_).take k
theorem nextB_len (l:List UInt8)(at_ k:Nat):(nextB l at_ k).length<=k:=by unfold nextB;rw[List.length_take];omega
def getP (left:Nat)(W:Int):Nat:=if W<0\/64<W then 1 else if (left:Int)<W then 3 else 0
def getN (l:List UInt8)(at_:Nat)(W:Int):Nat:=if getP (8*l.length-at_) W=0 then num (nextB l at_ W.toNat) else 0
def getAt (l:List UInt8)(at_:Nat)(W:Int):Nat:=if getP (8*l.length-at_) W=0 then at_+W.toNat else at_
theorem getAt_le (l:List UInt8)(at_:Nat)(W:Int)(h:at_<=8*l.length):getAt l at_ W<=8*l.length:=by
 unfold getAt
 by_cases h0:getP (8*l.length-at_) W=0
 ·rw[if_pos h0]
  unfold getP at h0
  by_cases h1:W<0\/64<W
  ·rw[if_pos h1] at h0;cases h0
  ·rw[if_neg h1] at h0
   by_cases h2:((8*l.length-at_:Nat):Int)<W
   ·rw[if_pos h2] at h0;cases h0
   ·omega
 ·rw[if_neg h0];exact h
theorem bitsU_num (t:List Bool)(h:t.length=8):bitsU (UInt8.ofNat (num t))=t:=by
 match t,h with
 | [b0, b1, b2, b3, b4, b5, b6, b7], _ =>
   have := byteOf_bits (fun k => [b0, b1, b2, b3, b4, b5, b6, b7].getD k false)
   unfold byteOf at this
   exact this
theorem nextB_length (l:List UInt8)(at_ k:Nat)(h:at_+k<=8*l.length):(nextB l at_ k).length=k:=by
 unfold nextB;rw[List.length_take,List.length_drop,bitsOf_length];omega
theorem nextB_add (l:List UInt8)(at_ k m:Nat):nextB l at_ (k+m)=nextB l at_ k++nextB l (at_+k) m:=by
 unfold nextB;rw[List.take_add,List.drop_drop]
theorem pack_step (l:List UInt8)(at_ k:Nat)(h:at_+8*(k+1)<=8*l.length):packL (nextB l at_ (8*(k+1)))=packL (nextB l at_ (8*k))++[UInt8.ofNat (num (nextB l (at_+8*k) 8))]:=by
 apply bitsOf_inj
 rw[bitsOf_app,packL_bits,packL_bits,nextB_length l at_ _ h,nextB_length l at_ _ (by omega)]
 have h1:bitsOf [UInt8.ofNat (num (nextB l (at_+8*k) 8))]=nextB l (at_+8*k) 8:=by
  rw[bitsOf,bitsOf,List.append_nil,bitsU_num _ (nextB_length l _ _ (by omega))]
 rw[h1,show 8*((8*(k+1)+7)/8)-8*(k+1)=0 by omega,show 8*((8*k+7)/8)-8*k=0 by omega,List.replicate_zero,List.append_nil,List.append_nil,show 8*(k+1)=8*k+8 by omega,nextB_add]
def takeP (left:Nat)(n:Int):Nat:=if n<0\/1024<n then 1 else if (left:Int)<8*n then 3 else 0
def takeL (l:List UInt8)(at_:Nat)(n:Int):List UInt8:=if takeP (8*l.length-at_) n=0 then packL (nextB l at_ (8*n.toNat)) else []
def takeAt (l:List UInt8)(at_:Nat)(n:Int):Nat:=if takeP (8*l.length-at_) n=0 then at_+8*n.toNat else at_
def endP (l:List UInt8)(at_:Nat):Nat:=if 7<8*l.length-at_ then 4 else if num (nextB l at_ (8*l.length-at_))=0 then 0 else 4
structure Fr where
 k:Int
 f:Int
 t:Int
 e:Int
 s:Int
 r:Int
 n:Nat
 m:Int
 v:Int
 i:Int
 key:List UInt8
 body:List UInt8
 tag:List UInt8
def Fr.zero:Fr:=⟨0,0,0,0,0,0,0,0,0,0,[],[],[]⟩
def inB (n most:Int):Bool:=decide (0<=n/\n<=most)
def numsB (F:Fr):Bool:=inB F.f 7&&inB F.t 7&&inB F.e 65535&&inB F.s 1048576&&inB F.r 1048576&&inB F.m 1099511627776&&inB F.v 255&&inB F.i 256
def coreB (F:Fr):Bool:=
 numsB F&&decide (F.body.length<=16) &&
  (if F.k = 1 then decide (F.key.length = 16 ∧ F.t = 0 ∧ F.n = 0 ∧ F.m = 0 ∧ F.s = 0)
   else if F.k = 2 then decide (F.f ≠ F.t ∧ F.key.length = 0 ∧ F.e = 0 ∧ F.i = 0 ∧ F.r = 0 ∧ F.v = 0 ∧ F.body.length = 0 ∧ F.m = 0 ∧ F.s = 0)
   else if F.k = 3 then decide (F.f ≠ F.t ∧ F.key.length = 16 ∧ F.r = 0 ∧ F.v = 0 ∧ F.body.length = 0)
   else false)
def rightB (F:Fr):Bool:=coreB F&&decide (F.tag.length=8)
def pingBits (F:Fr):List Bool:=bitsN F.t.toNat 4++bitsN F.n 64
def pongBits (F:Fr):List Bool:=pingBits F++bitsN F.m.toNat 48++bitsN F.e.toNat 16++bitsN F.s.toNat 24++bitsN F.i.toNat 16++bitsOf F.key
def dataBits (F:Fr):List Bool:=bitsN F.e.toNat 16++bitsN F.r.toNat 24++bitsN F.v.toNat 8++bitsN F.i.toNat 16++bitsOf F.key++bitsN F.body.length 5++bitsOf F.body
def kindBits (F:Fr):List Bool:=if F.k=1 then dataBits F else if F.k=2 then pingBits F else pongBits F
def coreBits (F:Fr):List Bool:=bitsN F.k.toNat 4++bitsN F.f.toNat 4++kindBits F
def coreL (F:Fr):List UInt8:=packL (coreBits F)
def putL (F:Fr):List UInt8:=fixL (packL (coreBits F++bitsOf F.tag))
structure Rs where
 at_:Nat
 miss:Bool
def numN (l:List UInt8)(s:Rs)(W:Nat):Nat:=getN l s.at_ (W:Int)
def numS (l:List UInt8)(s:Rs)(W:Nat):Rs:=⟨getAt l s.at_ (W:Int),s.miss||decide (getP (8*l.length-s.at_) (W:Int)≠0)⟩
def lstN (l:List UInt8)(s:Rs)(n:Nat):List UInt8:=takeL l s.at_ (n:Int)
def lstS (l:List UInt8)(s:Rs)(n:Nat):Rs:=⟨takeAt l s.at_ (n:Int),s.miss||decide (takeP (8*l.length-s.at_) (n:Int)≠0)⟩
def pingR (l:List UInt8)(F:Fr)(s:Rs):Fr×Rs:=
 let s1:=numS l s 4
 ({ F with t:=numN l s 4,n:=numN l s1 64 },numS l s1 64)
def pongR (l:List UInt8)(F:Fr)(s:Rs):Fr×Rs:=
 let p:=pingR l F s
 let s1:=numS l p.2 48
 let s2:=numS l s1 16
 let s3:=numS l s2 24
 let s4:=numS l s3 16
 ({ p.1 with m:=numN l p.2 48,e:=numN l s1 16,s:=numN l s2 24,i:=numN l s3 16,key:=lstN l s4 16 },lstS l s4 16)
def dataR (l:List UInt8)(F:Fr)(s:Rs):Fr×Rs:=
 let s1:=numS l s 16
 let s2:=numS l s1 24
 let s3:=numS l s2 8
 let s4:=numS l s3 16
 let s5:=lstS l s4 16
 let s6:=numS l s5 5
 ({ F with e:=numN l s 16,r:=numN l s1 24,v:=numN l s2 8,i:=numN l s3 16,key:=lstN l s4 16,body:=lstN l s6 (numN l s5 5) },lstS l s6 (numN l s5 5))
def coreR (l:List UInt8):Fr×Rs:=
 let s0:Rs:=⟨0,false⟩
 let s1:=numS l s0 4
 let s2:=numS l s1 4
 let F:Fr:={ Fr.zero with k:=numN l s0 4,f:=numN l s1 4 }
 if F.k=1 then dataR l F s2 else if F.k=2 then pingR l F s2 else if F.k=3 then pongR l F s2 else (F,s2)
def wholeR (l:List UInt8):Fr×Rs:=
 let p:=coreR l
 ({ p.1 with tag:=lstN l p.2 8 },lstS l p.2 8)
def fineB (l:List UInt8):Bool := !(wholeR l).2.miss&&decide (endP l (wholeR l).2.at_=0)&&rightB (wholeR l).1
def getE (l:List UInt8):Nat:=if l.length<3 then 3 else if goodL l=false then 8 else if fineB (l.take (l.length-3))=false then 4 else 0
def getF (l:List UInt8):Fr:=if getE l=0 then (wholeR (l.take (l.length-3))).1 else Fr.zero
theorem num_lt2 (l:List UInt8)(s:Rs)(W:Nat):numN l s W<2^W:=by
 unfold numN getN
 split
 ·refine Nat.lt_of_lt_of_le (num_lt _) (Nat.pow_le_pow_right (by omega) ?_)
  have:=nextB_len l s.at_ W
  simpa using this
 ·exact Nat.two_pow_pos W
theorem num_inj:∀ (a b:List Bool),a.length=b.length->num a=num b->a=b:=by
 intro a
 induction a with
 | nil=>intro b h _;cases b;rfl;simp at h
 | cons x a ih =>
   intro b h hn
   cases b with
   | nil => simp at h
   | cons y b =>
     have hl : a.length = b.length := by simpa using h
     rw [num_cons, num_cons, hl] at hn
     have ha := num_lt a
     have hb := num_lt b
     rw [hl] at ha
     have hxy : x = y := by
       cases x <;> cases y <;> simp at hn ⊢ <;> omega
     subst hxy
     rw [ih b hl (by omega)]
theorem bitsN_num (t:List Bool):bitsN (num t) t.length=t:=by
 apply num_inj
 ·rw[bitsN_length]
 ·rw[num_bitsN,Nat.mod_eq_of_lt (num_lt t)]
structure Did (l:List UInt8)(s:Rs)(B:List Bool):Prop where
 ok:s.miss=false
 le:s.at_<=8*l.length
 bits:(bitsOf l).take s.at_=B
 len:B.length=s.at_
theorem Did.start (l:List UInt8):Did l ⟨0,false⟩ []:=⟨rfl,Nat.zero_le _,by simp,rfl⟩
theorem Did.number {l:List UInt8}{s:Rs}{B:List Bool}(h:Did l s B)(W:Nat)(hm:(numS l s W).miss=false):Did l (numS l s W) (B++bitsN (numN l s W) W):=by
 have h0:getP (8*l.length-s.at_) (W:Int)=0:=by
  unfold numS at hm
  simp only[h.ok,Bool.false_or,decide_eq_false_iff_not,ne_eq,Decidable.not_not] at hm
  exact hm
 have hW:s.at_+W<=8*l.length/\W<=64:=by
  have hle:=h.le
  unfold getP at h0
  by_cases h1:(W:Int)<0\/64<(W:Int)
  ·rw[if_pos h1] at h0;cases h0
  ·rw[if_neg h1] at h0
   by_cases h2:((8*l.length-s.at_:Nat):Int)<W
   ·rw[if_pos h2] at h0;cases h0
   ·omega
 have eat:(numS l s W).at_=s.at_+W:=by unfold numS getAt;simp[h0]
 have en:numN l s W=num (nextB l s.at_ W):=by unfold numN getN;rw[if_pos h0];simp
 have eb:bitsN (numN l s W) W=nextB l s.at_ W:=by
  rw[en]
  have:=bitsN_num (nextB l s.at_ W)
  rw[nextB_length l s.at_ W hW.1] at this
  exact this
 refine⟨hm,by rw[eat];exact hW.1,?_,by rw[eat,List.length_append,h.len,bitsN_length]⟩
 rw[eat,List.take_add,h.bits,eb];rfl
theorem Did.lst {l:List UInt8}{s:Rs}{B:List Bool}(h:Did l s B)(n:Nat)(hm:(lstS l s n).miss=false):Did l (lstS l s n) (B++bitsOf (lstN l s n))/\(lstN l s n).length=n:=by
 have h0:takeP (8*l.length-s.at_) (n:Int)=0:=by
  unfold lstS at hm
  simp only[h.ok,Bool.false_or,decide_eq_false_iff_not,ne_eq,Decidable.not_not] at hm
  exact hm
 have hW:s.at_+8*n<=8*l.length:=by
  have hle:=h.le
  unfold takeP at h0
  by_cases h1:(n:Int)<0\/1024<(n:Int)
  ·rw[if_pos h1] at h0;cases h0
  ·rw[if_neg h1] at h0
   by_cases h2:((8*l.length-s.at_:Nat):Int)<8*n
   ·rw[if_pos h2] at h0;cases h0
   ·omega
 have eat:(lstS l s n).at_=s.at_+8*n:=by unfold lstS takeAt;simp[h0]
 have en:lstN l s n=packL (nextB l s.at_ (8*n)):=by unfold lstN takeL;rw[if_pos h0];simp
 have hnl:=nextB_length l s.at_ (8*n) hW
 have eb:bitsOf (lstN l s n)=nextB l s.at_ (8*n):=by
  rw[en,packL_bits,hnl,show 8*((8*n+7)/8)-8*n=0 by omega,List.replicate_zero,List.append_nil]
 have hlen:(lstN l s n).length=n:=by rw[en,packL_length,hnl];omega
 refine⟨⟨hm,by rw[eat];exact hW,?_,by rw[eat,List.length_append,h.len,bitsOf_length,hlen]⟩,hlen⟩
 rw[eat,List.take_add,h.bits,eb];rfl
theorem numS_ok {l:List UInt8}{s:Rs}{W:Nat}(h:(numS l s W).miss=false):s.miss=false:=by
 unfold numS at h;simp only[Bool.or_eq_false_iff] at h;exact h.1
theorem lstS_ok {l:List UInt8}{s:Rs}{W:Nat}(h:(lstS l s W).miss=false):s.miss=false:=by
 unfold lstS at h;simp only[Bool.or_eq_false_iff] at h;exact h.1
theorem Did.next {l:List UInt8}{s:Rs}{B C:List Bool}(h:Did l s B)(n W:Nat)(hW:W<=64)(hn:n<2^W)(hb:bitsOf l=B++(bitsN n W++C)):numN l s W=n/\Did l (numS l s W) (B++bitsN n W):=by
 have hl:=congrArg List.length hb
 simp only[bitsOf_length,List.length_append,bitsN_length,h.len] at hl
 have h0:getP (8*l.length-s.at_) (W:Int)=0:=by
  unfold getP
  rw[if_neg (by omega),if_neg (by omega)]
 have hm:(numS l s W).miss=false:=by unfold numS;simp[h.ok,h0]
 have hnx:nextB l s.at_ W=bitsN n W:=by
  unfold nextB
  rw[hb,<-h.len,List.drop_left,List.take_append_of_le_length (by rw[bitsN_length];exact Nat.le_refl _)]
  rw[List.take_of_length_le (by rw[bitsN_length];exact Nat.le_refl _)]
 have en:numN l s W=n:=by
  unfold numN getN;rw[if_pos h0]
  simp only[Int.toNat_natCast]
  rw[hnx,num_bitsN,Nat.mod_eq_of_lt hn]
 refine⟨en,?_⟩
 have:=h.number W hm
 rw[en] at this
 exact this
theorem Did.nextL {l:List UInt8}{s:Rs}{B C:List Bool}(h:Did l s B)(m:List UInt8)(hm8:m.length<=1024)(hb:bitsOf l=B++(bitsOf m++C)):lstN l s m.length=m/\Did l (lstS l s m.length) (B++bitsOf m):=by
 have hl:=congrArg List.length hb
 simp only[bitsOf_length,List.length_append,h.len] at hl
 have h0:takeP (8*l.length-s.at_) (m.length:Int)=0:=by
  unfold takeP
  rw[if_neg (by omega),if_neg (by omega)]
 have hm:(lstS l s m.length).miss=false:=by unfold lstS;simp[h.ok,h0]
 have hnx:nextB l s.at_ (8*m.length)=bitsOf m:=by
  unfold nextB
  rw[hb,<-h.len,List.drop_left,List.take_append_of_le_length (by rw[bitsOf_length];exact Nat.le_refl _)]
  rw[List.take_of_length_le (by rw[bitsOf_length];exact Nat.le_refl _)]
 have en:lstN l s m.length=m:=by
  unfold lstN takeL;rw[if_pos h0]
  simp only[Int.toNat_natCast]
  rw[hnx,packL_bytes]
 refine⟨en,?_⟩
 have:=(h.lst m.length hm).1
 rw[en] at this
 exact this
theorem inB_iff (n most:Int):inB n most=true↔0<=n/\n<=most:=by simp[inB]
theorem numsB_iff (F:Fr):numsB F=true↔(0<=F.f/\F.f<=7)/\(0<=F.t/\F.t<=7)/\(0<=F.e/\F.e<=65535)/\(0<=F.s/\F.s<=1048576)/\(0<=F.r/\F.r<=1048576)/\(0<=F.m/\F.m<=1099511627776)/\(0<=F.v/\F.v<=255)/\(0<=F.i/\F.i<=256):=by
 simp[numsB,inB_iff,and_assoc]
theorem fr_ext {F G:Fr}(h0:F.k=G.k)(h1:F.f=G.f)(h2:F.t=G.t)(h3:F.e=G.e)(h4:F.s=G.s)(h5:F.r=G.r)(h6:F.n=G.n)(h7:F.m=G.m)(h8:F.v=G.v)(h9:F.i=G.i)(h10:F.key=G.key)(h11:F.body=G.body)(h12:F.tag=G.tag):F=G:=by
 cases F;cases G;simp_all
theorem num_noughts:∀ k,num (List.replicate k false)=0
 | 0=>rfl
 | k+1=>by rw[List.replicate_succ,num_cons,num_noughts k];simp
theorem noughts_of (t:List Bool)(h:num t=0):t=List.replicate t.length false:=num_inj _ _ (by simp) (by rw[h,num_noughts])
theorem Did.ended {l:List UInt8}{s:Rs}{B:List Bool}(h:Did l s B)(he:endP l s.at_=0):packL B=l:=by
 have hle:=h.le
 have h7:8*l.length-s.at_<=7:=by
  unfold endP at he
  by_cases h1:7<8*l.length-s.at_
  ·rw[if_pos h1] at he;cases he
  ·omega
 have hz:num (nextB l s.at_ (8*l.length-s.at_))=0:=by
  unfold endP at he
  rw[if_neg (by omega)] at he
  by_cases h1:num (nextB l s.at_ (8*l.length-s.at_))=0
  ·exact h1
  ·rw[if_neg h1] at he;cases he
 have hr:=noughts_of _ hz
 have hnl:=nextB_length l s.at_ (8*l.length-s.at_) (by omega)
 rw[hnl] at hr
 have hall:bitsOf l=B++List.replicate (8*l.length-s.at_) false:=by
  rw[<-hr,<-h.bits]
  unfold nextB
  rw[List.take_of_length_le (l:=(bitsOf l).drop s.at_) (by rw[List.length_drop,bitsOf_length];omega),List.take_append_drop]
 apply bitsOf_inj
 rw[packL_bits,hall,h.len]
 congr 2
 omega
theorem Did.ends {l:List UInt8}{s:Rs}{B:List Bool}(h:Did l s B)(hl:l=packL B):endP l s.at_=0:=by
 have hb:=packL_bits B
 rw[<-hl] at hb
 have hlen:=congrArg List.length hb
 rw[bitsOf_length,List.length_append,List.length_replicate,h.len] at hlen
 unfold endP
 rw[if_neg (by omega),if_pos]
 unfold nextB
 rw[hb,<-h.len,List.drop_left,List.take_of_length_le (by rw[List.length_replicate];have:=h.len;omega),num_noughts]
theorem read_put (F:Fr)(hn:F.n<18446744073709551616)(hr:rightB F=true)(l:List UInt8)(hl:l=packL (coreBits F++bitsOf F.tag)):
  (wholeR l).1=F/\Did l (wholeR l).2 (coreBits F++bitsOf F.tag):=by
 obtain⟨Z,hb⟩:∃ Z,bitsOf l=coreBits F++bitsOf F.tag++Z:=⟨_,by rw[hl];exact packL_bits _⟩
 clear hl
 unfold rightB coreB at hr
 simp only[Bool.and_eq_true,decide_eq_true_eq] at hr
 obtain⟨⟨⟨hN,hB⟩,hK⟩,hT⟩:=hr
 obtain⟨hf,ht,he,hs,hrr,hm,hv,hi⟩:=(numsB_iff F).1 hN
 have hst:=Did.start l
 by_cases k1:F.k=1
 ·rw[if_pos k1] at hK
  simp only[decide_eq_true_eq] at hK
  obtain⟨hk,t0,n0,m0,s0⟩:=hK
  have hc:coreBits F=bitsN F.k.toNat 4++bitsN F.f.toNat 4++dataBits F:=by unfold coreBits kindBits;rw[if_pos k1]
  rw[hc,dataBits] at hb ⊢
  simp only[List.append_assoc] at hb
  obtain⟨e1,d1⟩:=hst.next F.k.toNat 4 (by omega) (by omega) (by rw[hb,List.nil_append])
  obtain⟨e2,d2⟩:=d1.next F.f.toNat 4 (by omega) (by omega) (by rw[hb];simp only[List.nil_append];rfl)
  obtain⟨e3,d3⟩:=d2.next F.e.toNat 16 (by omega) (by omega) (by rw[hb];simp only[List.append_assoc,List.nil_append];rfl)
  obtain⟨e4,d4⟩:=d3.next F.r.toNat 24 (by omega) (by omega) (by rw[hb];simp only[List.append_assoc,List.nil_append];rfl)
  obtain⟨e5,d5⟩:=d4.next F.v.toNat 8 (by omega) (by omega) (by rw[hb];simp only[List.append_assoc,List.nil_append];rfl)
  obtain⟨e6,d6⟩:=d5.next F.i.toNat 16 (by omega) (by omega) (by rw[hb];simp only[List.append_assoc,List.nil_append];rfl)
  obtain⟨e7,d7⟩:=d6.nextL F.key (by omega) (by rw[hb];simp only[List.append_assoc,List.nil_append];rfl)
  rw[hk] at e7 d7
  obtain⟨e8,d8⟩:=d7.next F.body.length 5 (by omega) (by omega) (by rw[hb];simp only[List.append_assoc,List.nil_append];rfl)
  obtain⟨e9,d9⟩:=d8.nextL F.body (by omega) (by rw[hb];simp only[List.append_assoc,List.nil_append];rfl)
  obtain⟨e10,d10⟩:=d9.nextL F.tag (by omega) (by rw[hb];simp only[List.append_assoc,List.nil_append];rfl)
  rw[hT] at e10 d10
  have hkk:((numN l ⟨0,false⟩ 4:Nat):Int)=1:=by rw[e1,k1];rfl
  have hcore:coreR l=dataR l { Fr.zero with k:=numN l ⟨0,false⟩ 4,f:=numN l (numS l ⟨0,false⟩ 4) 4 } (numS l (numS l ⟨0,false⟩ 4) 4):=by
   unfold coreR;simp only[hkk,if_true]
  unfold wholeR
  simp only[hcore,dataR,e8]
  refine⟨fr_ext ?_ ?_ ?_ ?_ ?_ ?_ ?_ ?_ ?_ ?_ ?_ ?_ ?_,?_⟩
  all_goals try dsimp only[Fr.zero]
  ·show ((numN l _ 4:Nat):Int)=_;rw[e1];omega
  ·show ((numN l _ 4:Nat):Int)=_;rw[e2];omega
  ·exact t0.symm
  ·show ((numN l _ 16:Nat):Int)=_;rw[e3];omega
  ·exact s0.symm
  ·show ((numN l _ 24:Nat):Int)=_;rw[e4];omega
  ·exact n0.symm
  ·exact m0.symm
  ·show ((numN l _ 8:Nat):Int)=_;rw[e5];omega
  ·show ((numN l _ 16:Nat):Int)=_;rw[e6];omega
  ·exact e7
  ·exact e9
  ·exact e10
  ·simpa only [List.append_assoc,List.nil_append] using d10
 ·rw[if_neg k1] at hK
  by_cases k2:F.k=2
  ·rw[if_pos k2] at hK
   simp only[decide_eq_true_eq] at hK
   obtain⟨hne,hk,e0,i0,r0,v0,b0,m0,s0⟩:=hK
   have hc:coreBits F=bitsN F.k.toNat 4++bitsN F.f.toNat 4++pingBits F:=by unfold coreBits kindBits;rw[if_neg k1,if_pos k2]
   rw[hc,pingBits] at hb ⊢
   simp only[List.append_assoc] at hb
   obtain⟨e1,d1⟩:=hst.next F.k.toNat 4 (by omega) (by omega) (by rw[hb,List.nil_append])
   obtain⟨e2,d2⟩:=d1.next F.f.toNat 4 (by omega) (by omega) (by rw[hb];simp only[List.nil_append];rfl)
   obtain⟨e3,d3⟩:=d2.next F.t.toNat 4 (by omega) (by omega) (by rw[hb];simp only[List.append_assoc,List.nil_append];rfl)
   obtain⟨e4,d4⟩:=d3.next F.n 64 (by omega) (by omega) (by rw[hb];simp only[List.append_assoc,List.nil_append];rfl)
   obtain⟨e10,d10⟩:=d4.nextL F.tag (by omega) (by rw[hb];simp only[List.append_assoc,List.nil_append];rfl)
   rw[hT] at e10 d10
   have hkk:((numN l ⟨0,false⟩ 4:Nat):Int)=2:=by rw[e1,k2];rfl
   have hcore:coreR l=pingR l { Fr.zero with k:=numN l ⟨0,false⟩ 4,f:=numN l (numS l ⟨0,false⟩ 4) 4 } (numS l (numS l ⟨0,false⟩ 4) 4):=by
    unfold coreR;simp only[hkk];rfl
   unfold wholeR
   simp only[hcore,pingR]
   refine⟨fr_ext ?_ ?_ ?_ ?_ ?_ ?_ ?_ ?_ ?_ ?_ ?_ ?_ ?_,?_⟩
   all_goals try dsimp only[Fr.zero]
   ·show ((numN l _ 4:Nat):Int)=_;rw[e1];omega
   ·show ((numN l _ 4:Nat):Int)=_;rw[e2];omega
   ·show ((numN l _ 4:Nat):Int)=_;rw[e3];omega
   ·exact e0.symm
   ·exact s0.symm
   ·exact r0.symm
   ·exact e4
   ·exact m0.symm
   ·exact v0.symm
   ·exact i0.symm
   ·exact(List.eq_nil_of_length_eq_zero hk).symm
   ·exact(List.eq_nil_of_length_eq_zero b0).symm
   ·exact e10
   ·simpa only [List.append_assoc,List.nil_append] using d10
  ·rw[if_neg k2] at hK
   by_cases k3:F.k=3
   ·rw[if_pos k3] at hK
    simp only[decide_eq_true_eq] at hK
    obtain⟨hne,hk,r0,v0,b0⟩:=hK
    have hc:coreBits F=bitsN F.k.toNat 4++bitsN F.f.toNat 4++pongBits F:=by unfold coreBits kindBits;rw[if_neg k1,if_neg k2]
    rw[hc,pongBits,pingBits] at hb ⊢
    simp only[List.append_assoc] at hb
    obtain⟨e1,d1⟩:=hst.next F.k.toNat 4 (by omega) (by omega) (by rw[hb,List.nil_append])
    obtain⟨e2,d2⟩:=d1.next F.f.toNat 4 (by omega) (by omega) (by rw[hb];simp only[List.nil_append];rfl)
    obtain⟨e3,d3⟩:=d2.next F.t.toNat 4 (by omega) (by omega) (by rw[hb];simp only[List.append_assoc,List.nil_append];rfl)
    obtain⟨e4,d4⟩:=d3.next F.n 64 (by omega) (by omega) (by rw[hb];simp only[List.append_assoc,List.nil_append];rfl)
    obtain⟨e5,d5⟩:=d4.next F.m.toNat 48 (by omega) (by omega) (by rw[hb];simp only[List.append_assoc,List.nil_append];rfl)
    obtain⟨e6,d6⟩:=d5.next F.e.toNat 16 (by omega) (by omega) (by rw[hb];simp only[List.append_assoc,List.nil_append];rfl)
    obtain⟨e7,d7⟩:=d6.next F.s.toNat 24 (by omega) (by omega) (by rw[hb];simp only[List.append_assoc,List.nil_append];rfl)
    obtain⟨e8,d8⟩:=d7.next F.i.toNat 16 (by omega) (by omega) (by rw[hb];simp only[List.append_assoc,List.nil_append];rfl)
    obtain⟨e9,d9⟩:=d8.nextL F.key (by omega) (by rw[hb];simp only[List.append_assoc,List.nil_append];rfl)
    rw[hk] at e9 d9
    obtain⟨e10,d10⟩:=d9.nextL F.tag (by omega) (by rw[hb];simp only[List.append_assoc,List.nil_append];rfl)
    rw[hT] at e10 d10
    have hkk:((numN l ⟨0,false⟩ 4:Nat):Int)=3:=by rw[e1,k3];rfl
    have hcore:coreR l=pongR l { Fr.zero with k:=numN l ⟨0,false⟩ 4,f:=numN l (numS l ⟨0,false⟩ 4) 4 } (numS l (numS l ⟨0,false⟩ 4) 4):=by
     unfold coreR;simp only[hkk];rfl
    unfold wholeR
    simp only[hcore,pongR,pingR]
    refine⟨fr_ext ?_ ?_ ?_ ?_ ?_ ?_ ?_ ?_ ?_ ?_ ?_ ?_ ?_,?_⟩
    all_goals try dsimp only[Fr.zero]
    ·show ((numN l _ 4:Nat):Int)=_;rw[e1];omega
    ·show ((numN l _ 4:Nat):Int)=_;rw[e2];omega
    ·show ((numN l _ 4:Nat):Int)=_;rw[e3];omega
    ·show ((numN l _ 16:Nat):Int)=_;rw[e6];omega
    ·show ((numN l _ 24:Nat):Int)=_;rw[e7];omega
    ·exact r0.symm
    ·exact e4
    ·show ((numN l _ 48:Nat):Int)=_;rw[e5];omega
    ·exact v0.symm
    ·show ((numN l _ 16:Nat):Int)=_;rw[e8];omega
    ·exact e9
    ·exact(List.eq_nil_of_length_eq_zero b0).symm
    ·exact e10
    ·simpa only [List.append_assoc,List.nil_append] using d10
   ·rw[if_neg k3] at hK;cases hK
theorem fix_take (l:List UInt8):(fixL l).length=l.length+3/\(fixL l).take ((fixL l).length-3)=l:=by
 have h:(fixL l).length=l.length+3:=by simp[fixL,sum3]
 refine⟨h,?_⟩
 rw[h,Nat.add_sub_cancel];simp[fixL]
theorem get_put (F:Fr)(hn:F.n<18446744073709551616)(hr:rightB F=true):getE (putL F)=0/\getF (putL F)=F:=by
 obtain⟨l,hl⟩:∃ l,l=packL (coreBits F++bitsOf F.tag):=⟨_,rfl⟩
 obtain⟨h1,h2⟩:=read_put F hn hr l hl
 have hf:fineB l=true:=by
  unfold fineB
  rw[h1,hr,h2.ok,h2.ends hl];rfl
 obtain⟨g1,g2⟩:=fix_take l
 have hE:getE (putL F)=0:=by
  unfold getE putL
  rw[<-hl,if_neg (by omega),fix_good l,g2,hf]
  simp
 refine⟨hE,?_⟩
 unfold getF
 rw[if_pos hE]
 unfold putL
 rw[<-hl,g2,h1]
theorem whole_bits (l:List UInt8)(hm:(wholeR l).2.miss=false)(hr:rightB (wholeR l).1=true):Did l (wholeR l).2 (coreBits (wholeR l).1++bitsOf (wholeR l).1.tag):=by
 have hst:=Did.start l
 have hk3:(wholeR l).1.k=1\/(wholeR l).1.k=2\/(wholeR l).1.k=3:=by
  unfold rightB coreB at hr
  by_cases k1:(wholeR l).1.k=1
  ·exact .inl k1
  ·by_cases k2:(wholeR l).1.k=2
   ·exact .inr (.inl k2)
   ·by_cases k3:(wholeR l).1.k=3
    ·exact .inr (.inr k3)
    ·simp[k1,k2,k3] at hr
 clear hr
 obtain⟨s1,hs1⟩:∃ s1,s1=numS l ⟨0,false⟩ 4:=⟨_,rfl⟩
 obtain⟨s2,hs2⟩:∃ s2,s2=numS l s1 4:=⟨_,rfl⟩
 by_cases k1:((numN l ⟨0,false⟩ 4:Nat):Int)=1
 ·have hcore:coreR l=dataR l { Fr.zero with k:=numN l ⟨0,false⟩ 4,f:=numN l s1 4 } s2:=by
   rw[hs2,hs1];unfold coreR;simp only[k1,if_true]
  unfold wholeR at hm ⊢
  rw[hcore] at hm ⊢
  simp only[dataR] at hm ⊢
  have m8:=lstS_ok hm
  have m7:=lstS_ok m8
  have m6:=numS_ok m7
  have m5:=lstS_ok m6
  have m4:=numS_ok m5
  have m3:=numS_ok m4
  have m2:=numS_ok m3
  have m1:=numS_ok m2
  rw[hs2] at m1
  have m0:=numS_ok m1
  rw[hs1] at m0
  have d1:=hst.number 4 m0
  rw[<-hs1] at d1 m0
  have d2:=d1.number 4 m1
  rw[<-hs2] at d2 m1
  have d3:=d2.number 16 m2
  have d4:=d3.number 24 m3
  have d5:=d4.number 8 m4
  have d6:=d5.number 16 m5
  obtain⟨d7,z7⟩:=d6.lst 16 m6
  have d8:=d7.number 5 m7
  obtain⟨d9,z9⟩:=d8.lst _ m8
  obtain⟨d10,_⟩:=d9.lst 8 hm
  simp only[coreBits,kindBits,k1,if_true,dataBits,Int.toNat_natCast,z9]
  rw[show (1:Int).toNat=numN l ⟨0,false⟩ 4 from by omega]
  simpa only [List.append_assoc,List.nil_append] using d10
 ·by_cases k2:((numN l ⟨0,false⟩ 4:Nat):Int)=2
  ·have hcore:coreR l=pingR l { Fr.zero with k:=numN l ⟨0,false⟩ 4,f:=numN l s1 4 } s2:=by
    rw[hs2,hs1];unfold coreR;simp only[k2];rfl
   unfold wholeR at hm ⊢
   rw[hcore] at hm ⊢
   simp only[pingR] at hm ⊢
   have m3:=lstS_ok hm
   have m2:=numS_ok m3
   have m1:=numS_ok m2
   rw[hs2] at m1
   have m0:=numS_ok m1
   rw[hs1] at m0
   have d1:=hst.number 4 m0
   rw[<-hs1] at d1 m0
   have d2:=d1.number 4 m1
   rw[<-hs2] at d2 m1
   have d3:=d2.number 4 m2
   have d4:=d3.number 64 m3
   obtain⟨d10,_⟩:=d4.lst 8 hm
   simp only[coreBits,kindBits,k2,if_true,pingBits,Int.toNat_natCast]
   rw[show (2:Int).toNat=numN l ⟨0,false⟩ 4 from by omega,if_neg (by decide)]
   simpa only [List.append_assoc,List.nil_append] using d10
  ·by_cases k3:((numN l ⟨0,false⟩ 4:Nat):Int)=3
   ·have hcore:coreR l=pongR l { Fr.zero with k:=numN l ⟨0,false⟩ 4,f:=numN l s1 4 } s2:=by
     rw[hs2,hs1];unfold coreR;simp only[k3];rfl
    unfold wholeR at hm ⊢
    rw[hcore] at hm ⊢
    simp only[pongR,pingR] at hm ⊢
    have m8:=lstS_ok hm
    have m7:=lstS_ok m8
    have m6:=numS_ok m7
    have m5:=numS_ok m6
    have m4:=numS_ok m5
    have m3:=numS_ok m4
    have m2:=numS_ok m3
    have m1:=numS_ok m2
    rw[hs2] at m1
    have m0:=numS_ok m1
    rw[hs1] at m0
    have d1:=hst.number 4 m0
    rw[<-hs1] at d1 m0
    have d2:=d1.number 4 m1
    rw[<-hs2] at d2 m1
    have d3:=d2.number 4 m2
    have d4:=d3.number 64 m3
    have d5:=d4.number 48 m4
    have d6:=d5.number 16 m5
    have d7:=d6.number 24 m6
    have d8:=d7.number 16 m7
    obtain⟨d9,_⟩:=d8.lst 16 m8
    obtain⟨d10,_⟩:=d9.lst 8 hm
    simp only[coreBits,kindBits,k3,pongBits,pingBits,Int.toNat_natCast]
    rw[show (3:Int).toNat=numN l ⟨0,false⟩ 4 from by omega,if_neg (by decide),if_neg (by decide)]
    simpa only [List.append_assoc,List.nil_append] using d10
   ·exfalso
    have hcore:coreR l=({ Fr.zero with k:=numN l ⟨0,false⟩ 4,f:=numN l s1 4 },s2):=by
     rw[hs2,hs1];unfold coreR;simp only[k1,k2,k3];rfl
    unfold wholeR at hk3
    rw[hcore] at hk3
    simp only at hk3
    omega
theorem put_get (l:List UInt8)(h:getE l=0):rightB (getF l)=true/\putL (getF l)=l/\(getF l).n<18446744073709551616:=by
 have hF:getF l=(wholeR (l.take (l.length-3))).1:=by unfold getF;rw[if_pos h]
 unfold getE at h
 by_cases h3:l.length<3
 ·rw[if_pos h3] at h;cases h
 ·rw[if_neg h3] at h
  by_cases hg:goodL l=false
  ·rw[if_pos hg] at h;cases h
  ·rw[if_neg hg] at h
   by_cases hf:fineB (l.take (l.length-3))=false
   ·rw[if_pos hf] at h;cases h
   ·have hf':fineB (l.take (l.length-3))=true:=by simpa using hf
    have hg':goodL l=true:=by simpa using hg
    unfold fineB at hf'
    simp only[Bool.and_eq_true,Bool.not_eq_true',decide_eq_true_eq] at hf'
    obtain⟨⟨hm,he⟩,hr⟩:=hf'
    have hd:=whole_bits _ hm hr
    have hp:=hd.ended he
    rw[hF]
    refine⟨hr,?_,?_⟩
    ·unfold putL
     rw[hp]
     unfold goodL at hg'
     simp only[decide_eq_true_eq] at hg'
     exact hg'.2
    ·have hn64:∀ s,numN (l.take (l.length-3)) s 64<18446744073709551616:=λs=>num_lt2 _ s 64
     obtain⟨B,hB⟩:∃ B,B=18446744073709551616:=⟨_,rfl⟩
     have hB0:0<B:=by omega
     rw[<-hB] at hn64 ⊢
     clear hB
     unfold wholeR coreR
     dsimp only
     split
     ·dsimp only[dataR,Fr.zero];exact hB0
     ·split
      ·dsimp only[pingR];exact hn64 _
      ·split
       ·dsimp only[pongR,pingR];exact hn64 _
       ·dsimp only[Fr.zero];exact hB0
theorem put_len (F:Fr)(hr:rightB F=true):3<=(putL F).length/\(putL F).length<=53/\(coreBits F++bitsOf F.tag).length<=397:=by
 unfold rightB coreB at hr
 simp only[Bool.and_eq_true,decide_eq_true_eq] at hr
 obtain⟨⟨⟨hN,hB⟩,hK⟩,hT⟩:=hr
 have hcl:(coreBits F++bitsOf F.tag).length<=397:=by
  have hb5:F.key.length<=16:=by
   by_cases k1:F.k=1
   ·rw[if_pos k1] at hK;simp only[decide_eq_true_eq] at hK;omega
   ·rw[if_neg k1] at hK
    by_cases k2:F.k=2
    ·rw[if_pos k2] at hK;simp only[decide_eq_true_eq] at hK;omega
    ·rw[if_neg k2] at hK
     by_cases k3:F.k=3
     ·rw[if_pos k3] at hK;simp only[decide_eq_true_eq] at hK;omega
     ·rw[if_neg k3] at hK;cases hK
  have hkl:(kindBits F).length<=325:=by
   unfold kindBits
   split
   ·simp only[dataBits,List.length_append,bitsN_length,bitsOf_length];omega
   ·split
    ·simp only[pingBits,List.length_append,bitsN_length];omega
    ·simp only[pongBits,pingBits,List.length_append,bitsN_length,bitsOf_length];omega
  simp only[coreBits,List.length_append,bitsN_length,bitsOf_length,hT]
  omega
 have h3:(putL F).length=(packL (coreBits F++bitsOf F.tag)).length+3:=(fix_take _).1
 rw[packL_length] at h3
 omega
end Go.Proofs.YthogohkieiogiaaGreatDoor
