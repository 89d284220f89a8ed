/-
  Words of 32 bits turned to the right, as plain numbers: what follows from the definition (no program here).

  SHA-256 in plain numbers: the words of a block, the rounds, the filling up, the digest; what follows from the definitions. No program here.

  More bytes behind bytes: the state and what is left. No program here.

  The tag over lists of bytes, and what follows of it. No program here.

  Keys out of keys over lists of bytes, and what follows of it. No program here.
  Numbers as bits, the highest first; bits as bytes, and back. No program here.

  Sums of bits, of any width, over plain numbers: they are linear, and a burst no longer than the sum is found. No program here.

  Bytes as bits, the highest first; sums of bytes; bursts. No program here.
-/
import Derived.Laws.BitsAllLaws
import Derived.Test.YthogohkieiogiaaGreatDoorGround
namespace Go.Proofs.YthogohkieiogiaaGreatDoor
set_option maxRecDepth 20000
def rotr (x k:Nat):Nat:=(x>>>k)|||((x<<<(32-k))%4294967296)
theorem rotr_bv (x k:Nat)(hx:x<4294967296)(hk:k<32):rotr x k=((BitVec.ofNat 32 x).rotateRight k).toNat:=by
 rw[BitVec.rotateRight_def]
 simp only[BitVec.toNat_or,BitVec.toNat_ushiftRight,BitVec.toNat_shiftLeft,BitVec.toNat_ofNat,rotr]
 rw[Nat.mod_eq_of_lt (a:=k) hk,Nat.mod_eq_of_lt (a:=x) (b:=2^32) (by omega)]
theorem rotr_lt (x k:Nat)(hx:x<4294967296)(hk:k<32):rotr x k<4294967296:=by
 rw[rotr_bv x k hx hk];exact((BitVec.ofNat 32 x).rotateRight k).isLt
def be (l:List UInt8):Nat:=l.foldl (λx c=>x*256+c.toNat) 0
theorem be_snoc (l:List UInt8)(c:UInt8):be (l++[c])=be l*256+c.toNat:=by simp[be,List.foldl_append]
theorem be_lt_aux (l:List UInt8):∀ x B:Nat,x<B->l.foldl (λx c=>x*256+c.toNat) x<B*256^l.length:=by
 induction l with
 | nil=>intro x B h;simpa using h
 | cons c l ih =>
   intro x B h
   have hc := c.toNat_lt
   have h1 : x * 256 + c.toNat < B * 256 := by omega
   have h2 := ih (x * 256 + c.toNat) (B * 256) h1
   simp only [List.foldl_cons, List.length_cons]
   rw [show B * 256 ^ (l.length + 1) = B * 256 * 256 ^ l.length from by rw [Nat.pow_succ, Nat.mul_comm (256 ^ l.length) 256, Nat.mul_assoc]]
   exact h2
theorem be_lt (l:List UInt8):be l<256^l.length:=by have:=be_lt_aux l 0 1 (by omega);simpa [be] using this
def w4 (x:Nat):List UInt8:=[UInt8.ofNat (x/16777216),UInt8.ofNat (x/65536),UInt8.ofNat (x/256),UInt8.ofNat x]
theorem w4_length (x:Nat):(w4 x).length=4:=rfl
def w4s (l:List Nat):List UInt8:=l.flatMap w4
theorem w4s_length (l:List Nat):(w4s l).length=4*l.length:=by
 induction l with
 | nil=>rfl
 | cons x l ih=>simp only[w4s,List.flatMap_cons,List.length_append,w4_length,List.length_cons] at *;omega
theorem w4s_snoc (l:List Nat)(x:Nat):w4s (l++[x])=w4s l++w4 x:=by simp[w4s,List.flatMap_append]
def rot3 (x i j k:Nat):Nat:=rotr x i^^^rotr x j^^^rotr x k
def sg0 (x:Nat):Nat:=rotr x 7^^^rotr x 18^^^(x>>>3)
def sg1 (x:Nat):Nat:=rotr x 17^^^rotr x 19^^^(x>>>10)
theorem xor_lt32 {x y:Nat}(hx:x<4294967296)(hy:y<4294967296):x^^^y<4294967296:=Nat.xor_lt_two_pow (n:=32) hx hy
theorem and_lt32 {x y:Nat}(hx:x<4294967296):x&&&y<4294967296:=Nat.lt_of_le_of_lt Nat.and_le_left hx
theorem shr_lt32 {x k:Nat}(hx:x<4294967296):x>>>k<4294967296:=Nat.lt_of_le_of_lt (by rw[Nat.shiftRight_eq_div_pow];exact Nat.div_le_self _ _) hx
def nextW (blk:List UInt8)(W:List Nat)(t:Nat):Nat:=
 if t<16 then be ((blk.drop (4*t)).take 4)
 else (sg1 (W.getD (t-2) 0)+W.getD (t-7) 0+sg0 (W.getD (t-15) 0)+W.getD (t-16) 0)%4294967296
def wl (blk:List UInt8):Nat->List Nat
 | 0=>[]
 | t+1=>wl blk t++[nextW blk (wl blk t) t]
theorem wl_length (blk:List UInt8):∀ t,(wl blk t).length=t
 | 0=>rfl
 | t+1=>by simp[wl,wl_length blk t]
theorem nextW_lt (blk:List UInt8)(W:List Nat)(t:Nat):nextW blk W t<4294967296:=by
 unfold nextW
 split
 ·have h:=be_lt ((blk.drop (4*t)).take 4)
  have h2:((blk.drop (4*t)).take 4).length<=4:=List.length_take_le _ _
  have h3:256^((blk.drop (4*t)).take 4).length<=256^4:=Nat.pow_le_pow_right (by omega) h2
  have h4:(256:Nat)^4=4294967296:=by decide
  omega
 ·exact Nat.mod_lt _ (by omega)
theorem wl_lt (blk:List UInt8):∀ t,∀ x∈wl blk t,x<4294967296
 | 0=>by simp[wl]
 | t + 1 => by
   intro x hx
   simp only [wl, List.mem_append, List.mem_singleton] at hx
   rcases hx with hx | rfl
   · exact wl_lt blk t x hx
   · exact nextW_lt _ _ _
theorem getD_lt {l:List Nat}(h:∀ x∈l,x<4294967296)(k:Nat):l.getD k 0<4294967296:=by
 rw[List.getD_eq_getElem?_getD]
 cases hk:l[k]? with
 | none=>simp
 | some x=>exact h x (List.mem_of_getElem? hk)
structure S8 where
 a:Nat
 b:Nat
 c:Nat
 d:Nat
 e:Nat
 f:Nat
 g:Nat
 h:Nat
def S8.small (s:S8):Prop:=s.a<4294967296/\s.b<4294967296/\s.c<4294967296/\s.d<4294967296/\s.e<4294967296/\s.f<4294967296/\s.g<4294967296/\s.h<4294967296
def S8.list (s:S8):List Nat:=[s.a,s.b,s.c,s.d,s.e,s.f,s.g,s.h]
theorem S8.small_list {s:S8}(hs:s.small):∀ x∈s.list,x<4294967296:=by
 obtain⟨h1,h2,h3,h4,h5,h6,h7,h8⟩:=hs
 simp[S8.list];omega
def ch (e f g:Nat):Nat:=(e&&&f)^^^((4294967295-e)&&&g)
def maj (a b c:Nat):Nat:=(a&&&b)^^^(a&&&c)^^^(b&&&c)
def T1 (k w:Nat)(s:S8):Nat:=(s.h+rot3 s.e 6 11 25+ch s.e s.f s.g+k+w)%4294967296
def T2 (s:S8):Nat:=(rot3 s.a 2 13 22+maj s.a s.b s.c)%4294967296
def rnd (k w:Nat)(s:S8):S8:=⟨(T1 k w s+T2 s)%4294967296,s.a,s.b,s.c,(s.d+T1 k w s)%4294967296,s.e,s.f,s.g⟩
theorem rnd_small {k w:Nat}{s:S8}(hs:s.small):(rnd k w s).small:=by
 obtain⟨h1,h2,h3,h4,h5,h6,h7,h8⟩:=hs
 exact⟨Nat.mod_lt _ (by omega),h1,h2,h3,Nat.mod_lt _ (by omega),h5,h6,h7⟩
def kTab:List Nat:=[0x428a2f98,0x71374491,0xb5c0fbcf,0xe9b5dba5,0x3956c25b,0x59f111f1,0x923f82a4,0xab1c5ed5,
 0xd807aa98,0x12835b01,0x243185be,0x550c7dc3,0x72be5d74,0x80deb1fe,0x9bdc06a7,0xc19bf174,
 0xe49b69c1,0xefbe4786,0x0fc19dc6,0x240ca1cc,0x2de92c6f,0x4a7484aa,0x5cb0a9dc,0x76f988da,
 0x983e5152,0xa831c66d,0xb00327c8,0xbf597fc7,0xc6e00bf3,0xd5a79147,0x06ca6351,0x14292967,
 0x27b70a85,0x2e1b2138,0x4d2c6dfc,0x53380d13,0x650a7354,0x766a0abb,0x81c2c92e,0x92722c85,
 0xa2bfe8a1,0xa81a664b,0xc24b8b70,0xc76c51a3,0xd192e819,0xd6990624,0xf40e3585,0x106aa070,
 0x19a4c116,0x1e376c08,0x2748774c,0x34b0bcb5,0x391c0cb3,0x4ed8aa4a,0x5b9cca4f,0x682e6ff3,
 0x748f82ee,0x78a5636f,0x84c87814,0x8cc70208,0x90befffa,0xa4506ceb,0xbef9a3f7,0xc67178f2]
def start:S8:=⟨0x6a09e667,0xbb67ae85,0x3c6ef372,0xa54ff53a,0x510e527f,0x9b05688c,0x1f83d9ab,0x5be0cd19⟩
theorem kTab_length:kTab.length=64:=rfl
theorem start_small:start.small:=by unfold S8.small start;decide
def rnds (W:List Nat)(s:S8):Nat->S8
 | 0=>s
 | t+1=>rnd (kTab.getD t 0) (W.getD t 0) (rnds W s t)
theorem rnds_small (W:List Nat){s:S8}(hs:s.small):∀ t,(rnds W s t).small
 | 0=>hs
 | t+1=>rnd_small (rnds_small W hs t)
def addS (s r:S8):S8:=⟨(s.a+r.a)%4294967296,(s.b+r.b)%4294967296,(s.c+r.c)%4294967296,(s.d+r.d)%4294967296,
 (s.e+r.e)%4294967296,(s.f+r.f)%4294967296,(s.g+r.g)%4294967296,(s.h+r.h)%4294967296⟩
theorem addS_small (s r:S8):(addS s r).small:=⟨Nat.mod_lt _ (by omega),Nat.mod_lt _ (by omega),Nat.mod_lt _ (by omega),Nat.mod_lt _ (by omega),Nat.mod_lt _ (by omega),Nat.mod_lt _ (by omega),Nat.mod_lt _ (by omega),Nat.mod_lt _ (by omega)⟩
def mixS (s:S8)(blk:List UInt8):S8:=addS s (rnds (wl blk 64) s 64)
theorem mixS_small (s:S8)(blk:List UInt8):(mixS s blk).small:=addS_small _ _
def runB (s:S8)(bs:List UInt8):Nat->S8
 | 0=>s
 | n+1=>mixS (runB s bs n) ((bs.drop (64*n)).take 64)
theorem runB_small {s:S8}(hs:s.small)(bs:List UInt8):∀ n,(runB s bs n).small
 | 0=>hs
 | _+1=>mixS_small _ _
theorem runB_append (s:S8)(bs cs:List UInt8):∀ n,64*n<=bs.length->runB s (bs++cs) n=runB s bs n
 | 0,_=>rfl
 | n + 1, h => by
   simp only [runB]
   rw [runB_append s bs cs n (by omega)]
   congr 1
   rw [List.drop_append_of_le_length (by omega), List.take_append_of_le_length (by simp; omega)]
theorem runB_add (s:S8)(bs:List UInt8)(n:Nat):∀ m,runB s bs (n+m)=runB (runB s bs n) (bs.drop (64*n)) m
 | 0=>rfl
 | m + 1 => by
   show mixS (runB s bs (n + m)) _ = mixS (runB (runB s bs n) (bs.drop (64 * n)) m) _
   rw [runB_add s bs n m, List.drop_drop, show 64 * n + 64 * m = 64 * (n.add m) from (Nat.mul_add 64 n m).symm]
def zs (n:Nat):Nat:=(119-n%64)%64
def pad (l:List UInt8)(size:Nat):List UInt8:=l++[0x80]++List.replicate (zs l.length) 0++w4s [8*size/4294967296,8*size%4294967296]
theorem pad_length (l:List UInt8)(size:Nat):(pad l size).length=l.length+9+zs l.length:=by
 simp only[pad,List.length_append,List.length_replicate,w4s_length,List.length_cons,List.length_nil];omega
theorem pad_length64 (l:List UInt8)(size:Nat):(pad l size).length%64=0:=by rw[pad_length];unfold zs;omega
theorem zs_lt (n:Nat):zs n<64:=Nat.mod_lt _ (by omega)
def shaL (bs:List UInt8):List UInt8:=w4s (runB start (pad bs bs.length) ((pad bs bs.length).length/64)).list
theorem shaL_length (bs:List UInt8):(shaL bs).length=32:=by simp[shaL,w4s_length,S8.list]
def stOf (bs:List UInt8):S8:=runB start bs (bs.length/64)
def leftOf (bs:List UInt8):List UInt8:=bs.drop (64*(bs.length/64))
theorem stOf_small (bs:List UInt8):(stOf bs).small:=runB_small start_small _ _
theorem leftOf_length (bs:List UInt8):(leftOf bs).length=bs.length%64:=by simp[leftOf];omega
theorem sum_of (bs:List UInt8):w4s (runB (stOf bs) (pad (leftOf bs) bs.length) ((pad (leftOf bs) bs.length).length/64)).list=shaL bs:=by
 have hl:=leftOf_length bs
 have hz:zs (leftOf bs).length=zs bs.length:=by rw[hl];unfold zs;omega
 have hsplit:bs=bs.take (64*(bs.length/64))++leftOf bs:=(List.take_append_drop _ _).symm
 have htl:(bs.take (64*(bs.length/64))).length=64*(bs.length/64):=by simp;omega
 have hp:pad bs bs.length=bs.take (64*(bs.length/64))++pad (leftOf bs) bs.length:=by
  unfold pad
  rw[hz]
  conv=>lhs;lhs;lhs;lhs;rw[hsplit]
  simp only[List.append_assoc]
 have hlen:(pad bs bs.length).length/64=bs.length/64+(pad (leftOf bs) bs.length).length/64:=by
  rw[hp,List.length_append,htl];omega
 unfold shaL
 rw[hlen,runB_add,hp,List.drop_left' htl,runB_append _ _ _ _ (by rw[htl];exact Nat.le_refl _)]
 congr 3
 unfold stOf
 conv=>lhs;rw[hsplit]
 rw[runB_append _ _ _ _ (by rw[<-hsplit,htl];exact Nat.le_refl _)]
 congr 1
 rw[<-hsplit]
theorem drop_whole (bs cs:List UInt8):(bs++cs).drop (64*(bs.length/64))=leftOf bs++cs:=by
 unfold leftOf
 rw[List.drop_append_of_le_length (by omega)]
theorem runB_whole (bs cs:List UInt8):runB start (bs++cs) (bs.length/64)=stOf bs:=by
 unfold stOf
 exact runB_append _ _ _ _ (by omega)
theorem more_few (bs cs:List UInt8)(h:(leftOf bs).length+cs.length<64):stOf (bs++cs)=stOf bs/\leftOf (bs++cs)=leftOf bs++cs:=by
 have hl:=leftOf_length bs
 have hq:(bs++cs).length/64=bs.length/64:=by rw[List.length_append];omega
 constructor
 ·rw[<-runB_whole bs cs];unfold stOf;rw[hq]
 ·rw[<-drop_whole bs cs];unfold leftOf;rw[hq]
theorem more_many (bs cs p r:List UInt8)(hc:cs=p++r)(hp:(leftOf bs++p).length=64):
  stOf (bs++cs)=runB (mixS (stOf bs) (leftOf bs++p)) r (r.length/64)/\leftOf (bs++cs)=r.drop (64*(r.length/64)):=by
 have hl:=leftOf_length bs
 have hpl:(leftOf bs).length+p.length=64:=by rw[<-List.length_append];exact hp
 have hcl:cs.length=p.length+r.length:=by rw[hc,List.length_append]
 have hq:(bs++cs).length/64=bs.length/64+(1+r.length/64):=by rw[List.length_append];omega
 have hd:(bs++cs).drop (64*(bs.length/64))=(leftOf bs++p)++r:=by rw[drop_whole,hc,List.append_assoc]
 constructor
 ·unfold stOf
  rw[hq,runB_add,runB_whole,hd,runB_add]
  have h1:((leftOf bs++p)++r).drop (64*1)=r:=List.drop_left' hp
  have h2:runB (stOf bs) ((leftOf bs++p)++r) 1=mixS (stOf bs) (leftOf bs++p):=by
   show mixS (stOf bs) ((((leftOf bs++p)++r).drop 0).take 64)=_
   rw[List.drop_zero,List.take_left' hp]
  rw[h1,h2]
  rfl
 ·unfold leftOf at *
  rw[hq,Nat.mul_add,<-List.drop_drop]
  have e:(bs++cs).drop (64*(bs.length/64))=(bs.drop (64*(bs.length/64))++p)++r:=hd
  rw[e,Nat.mul_add,<-List.drop_drop,List.drop_left' hp]
def keyL (key:List UInt8):List UInt8:=if 64<key.length then shaL key else key
def fillK (key:List UInt8):List UInt8:=keyL key++List.replicate (64-(keyL key).length) 0
def padK (key:List UInt8)(c:UInt8):List UInt8:=(fillK key).map (· ^^^ c)
def inK (key:List UInt8):List UInt8:=padK key 0x36
def outK (key:List UInt8):List UInt8:=padK key 0x5C
def hmacL (key b:List UInt8):List UInt8:=shaL (outK key++shaL (inK key++b))
theorem keyL_le (key:List UInt8):(keyL key).length<=64:=by
 unfold keyL;split
 ·rw[shaL_length];omega
 ·omega
theorem fillK_length (key:List UInt8):(fillK key).length=64:=by
 have:=keyL_le key
 simp[fillK];omega
theorem padK_length (key:List UInt8)(c:UInt8):(padK key c).length=64:=by simp[padK,fillK_length]
theorem hmacL_length (key b:List UInt8):(hmacL key b).length=32:=shaL_length _
theorem padK_at (key:List UInt8)(c:UInt8)(i:Nat)(hi:i<64):(padK key c)[i]?=some (((keyL key)[i]?.getD 0)^^^c):=by
 unfold padK fillK
 rw[List.getElem?_map]
 by_cases h:i<(keyL key).length
 ·rw[List.getElem?_append_left h];simp[h]
 ·rw[List.getElem?_append_right (by omega),List.getElem?_replicate,if_pos (by omega)]
  simp[show (keyL key).length<=i by omega]
def tK (key info:List UInt8):Nat->List UInt8
 | 0=>[]
 | i+1=>hmacL key (tK key info i++info++[UInt8.ofNat (i+1)])
def catK (key info:List UInt8):Nat->List UInt8
 | 0=>[]
 | i+1=>catK key info i++tK key info (i+1)
def expandL (key info:List UInt8)(n:Nat):List UInt8:=(catK key info ((n+31)/32)).take n
theorem tK_length (key info:List UInt8)(i:Nat)(h:0<i):(tK key info i).length=32:=by
 cases i with
 | zero=>omega
 | succ i=>exact hmacL_length _ _
theorem tK_le (key info:List UInt8)(i:Nat):(tK key info i).length<=32:=by
 cases i with
 | zero=>simp[tK]
 | succ i=>rw[tK_length _ _ _ (by omega)];exact Nat.le_refl _
theorem catK_length (key info:List UInt8):∀ i,(catK key info i).length=32*i
 | 0=>rfl
 | i+1=>by rw[catK,List.length_append,catK_length key info i,tK_length _ _ _ (by omega)];omega
theorem catK_more (key info:List UInt8)(k:Nat):∀ j,∃ r,catK key info (k+j)=catK key info k++r
 | 0=>⟨[],by simp⟩
 | j + 1 => by
   obtain ⟨r, hr⟩ := catK_more key info k j
   exact ⟨r ++ tK key info (k + j + 1), by rw [← Nat.add_assoc, catK, hr, List.append_assoc]⟩
theorem catK_take (key info:List UInt8)(k n:Nat)(h:n<=32*k):(catK key info k).take n=expandL key info n:=by
 obtain⟨r,hr⟩:=catK_more key info ((n+31)/32) (k-(n+31)/32)
 rw[show (n+31)/32+(k-(n+31)/32)=k from by omega] at hr
 unfold expandL
 rw[hr,List.take_append_of_le_length (by rw[catK_length];omega)]
theorem expandL_length (key info:List UInt8)(n:Nat):(expandL key info n).length=n:=by
 unfold expandL;rw[List.length_take,catK_length];omega
def labelL (s:List UInt8):Bool:=s.all (λc=>decide (97<=c.toNat/\c.toNat<=122))&&decide (1<=s.length/\s.length<=64)
def longsL:List Nat->List UInt8
 | []=>[]
 | n::l=>w4s [n/4294967296,n%4294967296]++longsL l
theorem longsL_snoc:∀ (l:List Nat) (n:Nat),longsL (l++[n])=longsL l++w4s [n/4294967296,n%4294967296]
 | [],n=>by simp[longsL]
 | x::l,n=>by simp[longsL,longsL_snoc l n]
theorem longsL_length:∀ l:List Nat,(longsL l).length=8*l.length
 | []=>rfl
 | n::l=>by rw[longsL,List.length_append,longsL_length l,w4s_length];simp;omega
def infoL (name:List UInt8)(l:List Nat):List UInt8:=name++[0]++longsL l
def keyOf (from_ name:List UInt8)(l:List Nat):List UInt8:=expandL from_ (infoL name l) 16
theorem keyOf_length (f n:List UInt8)(l:List Nat):(keyOf f n l).length=16:=expandL_length _ _ _
def bitsU (x:UInt8):List Bool:=[x.toNat.testBit 7,x.toNat.testBit 6,x.toNat.testBit 5,x.toNat.testBit 4,x.toNat.testBit 3,x.toNat.testBit 2,x.toNat.testBit 1,x.toNat.testBit 0]
def bitsOf:List UInt8->List Bool
 | []=>[]
 | x::l=>bitsU x++bitsOf l
theorem bitsU_length (x:UInt8):(bitsU x).length=8:=rfl
theorem bitsOf_length:∀ l:List UInt8,(bitsOf l).length=8*l.length
 | []=>rfl
 | x::l=>by rw[bitsOf,List.length_append,bitsOf_length l];simp[bitsU];omega
theorem bitsOf_app:∀ l m:List UInt8,bitsOf (l++m)=bitsOf l++bitsOf m
 | [],_=>rfl
 | x::l,m=>by rw[List.cons_append,bitsOf,bitsOf,bitsOf_app l m,List.append_assoc]
theorem bitsU_at (x:UInt8)(j:Nat)(hj:j<8):(bitsU x)[j]?=some (x.toNat.testBit (7-j)):=by
 have hc:j=0\/j=1\/j=2\/j=3\/j=4\/j=5\/j=6\/j=7:=by omega
 rcases hc with rfl|rfl|rfl|rfl|rfl|rfl|rfl|rfl<;>rfl
theorem bits_at:∀ (l:List UInt8) (i:Nat) (x:UInt8),l[i/8]?=some x->(bitsOf l)[i]?=some (x.toNat.testBit (7-i%8))
 | [],i,x,h=>by simp at h
 | y :: l, i, x, h => by
   rw [bitsOf]
   by_cases hi : i < 8
   · have h0 : i / 8 = 0 := by omega
     rw [h0] at h
     simp at h
     subst h
     rw [List.getElem?_append_left (by simp [bitsU]; exact hi), bitsU_at y i hi, show i % 8 = i from by omega]
   · have h8 : i / 8 = (i - 8) / 8 + 1 := by omega
     rw [h8, List.getElem?_cons_succ] at h
     have := bits_at l (i - 8) x h
     rw [List.getElem?_append_right (by simp [bitsU]; omega), show (bitsU y).length = 8 from rfl, this, show (i - 8) % 8 = i % 8 from by omega]
theorem u8_ext (x y:UInt8)(h:∀ j,j<8->x.toNat.testBit j=y.toNat.testBit j):x=y:=by
 apply UInt8.toNat_inj.1
 apply Nat.eq_of_testBit_eq
 intro j
 by_cases hj:j<8
 ·exact h j hj
 ·have hp:(256:Nat)<=2^j:=Nat.pow_le_pow_right (n:=2) (i:=8) (by omega) (by omega)
  rw[Nat.testBit_lt_two_pow (Nat.lt_of_lt_of_le x.toNat_lt hp),Nat.testBit_lt_two_pow (Nat.lt_of_lt_of_le y.toNat_lt hp)]
def bitsN (n:Nat):Nat->List Bool
 | 0=>[]
 | w+1=>n.testBit w::bitsN n w
theorem bitsN_length (n:Nat):∀ w,(bitsN n w).length=w
 | 0=>rfl
 | w+1=>by rw[bitsN,List.length_cons,bitsN_length n w]
theorem bitsN_byte (x:UInt8):bitsN x.toNat 8=bitsU x:=rfl
def num (l:List Bool):Nat:=l.foldl (λa b=>2*a+b.toNat) 0
theorem num_snoc (l:List Bool)(b:Bool):num (l++[b])=2*num l+b.toNat:=by simp[num]
theorem num_lt:∀ l:List Bool,num l<2^l.length:=by
 intro l
 generalize hn:l.length=n
 induction n generalizing l with
 | zero=>rw[List.eq_nil_of_length_eq_zero hn];simp[num]
 | succ n ih =>
   obtain ⟨m, b, rfl⟩ : ∃ m b, l = m ++ [b] := ⟨l.dropLast, l.getLast (by rintro rfl; simp at hn), (List.dropLast_concat_getLast _).symm⟩
   have := ih m (by simpa using hn)
   rw [num_snoc, Nat.pow_succ]
   cases b <;> simp <;> omega
theorem num_foldl:∀ (l:List Bool) (a:Nat),l.foldl (λa b=>2*a+b.toNat) a=a*2^l.length+num l
 | [],a=>by simp[num]
 | b :: l, a => by
   show l.foldl _ (2 * a + b.toNat) = _
   have h2 : num (b :: l) = b.toNat * 2 ^ l.length + num l := by
     show l.foldl _ (2 * 0 + b.toNat) = _
     rw [num_foldl l, Nat.mul_zero, Nat.zero_add]
   rw [num_foldl l, h2, List.length_cons, Nat.pow_succ, Nat.add_mul, Nat.mul_comm 2 a, Nat.mul_assoc, Nat.mul_comm 2, ← Nat.add_assoc]
theorem num_cons (b:Bool)(l:List Bool):num (b::l)=b.toNat*2^l.length+num l:=by
 show l.foldl _ (2*0+b.toNat)=_
 rw[num_foldl l,Nat.mul_zero,Nat.zero_add]
theorem num_bitsN (n:Nat):∀ w,num (bitsN n w)=n%2^w
 | 0=>by simp[bitsN,num,Nat.mod_one]
 | w + 1 => by
   rw [bitsN, num_cons, bitsN_length, num_bitsN n w, Nat.pow_succ]
   have h1 : (n.testBit w).toNat = n / 2 ^ w % 2 := by
     rw [Nat.testBit_eq_decide_div_mod_eq]
     have : n / 2 ^ w % 2 < 2 := Nat.mod_lt _ (by omega)
     by_cases h : n / 2 ^ w % 2 = 1
     · simp [h]
     · rw [show n / 2 ^ w % 2 = 0 by omega]; rfl
   rw [h1, Nat.mod_mul, Nat.mul_comm, Nat.add_comm]
def byteOf (f:Nat->Bool):UInt8:=UInt8.ofNat (num [f 0,f 1,f 2,f 3,f 4,f 5,f 6,f 7])
theorem byteOf_toNat (f:Nat->Bool):(byteOf f).toNat=num [f 0,f 1,f 2,f 3,f 4,f 5,f 6,f 7]:=by
 have:=num_lt [f 0,f 1,f 2,f 3,f 4,f 5,f 6,f 7]
 unfold byteOf
 rw[UInt8.toNat_ofNat']
 exact Nat.mod_eq_of_lt this
theorem byteOf_bits (f:Nat->Bool):bitsU (byteOf f)=[f 0,f 1,f 2,f 3,f 4,f 5,f 6,f 7]:=by
 unfold bitsU
 rw[byteOf_toNat]
 cases f 0<;>cases f 1<;>cases f 2<;>cases f 3<;>cases f 4<;>cases f 5<;>cases f 6<;>cases f 7<;>rfl
theorem byteOf_test (f:Nat->Bool)(k:Nat)(hk:k<8):(byteOf f).toNat.testBit (7-k)=f k:=by
 have h:=bitsU_at (byteOf f) k hk
 rw[byteOf_bits] at h
 have hc:k=0\/k=1\/k=2\/k=3\/k=4\/k=5\/k=6\/k=7:=by omega
 rcases hc with rfl|rfl|rfl|rfl|rfl|rfl|rfl|rfl<;>exact(Option.some.inj h).symm
theorem byteOf_same (f g:Nat->Bool)(h:∀ k,k<8->f k=g k):byteOf f=byteOf g:=by
 unfold byteOf
 rw[h 0 (by omega),h 1 (by omega),h 2 (by omega),h 3 (by omega),h 4 (by omega),h 5 (by omega),h 6 (by omega),h 7 (by omega)]
def packN (bs:List Bool)(m:Nat):List UInt8:=(List.range m).map λj=>byteOf λk=>bs.getD (8*j+k) false
def packL (bs:List Bool):List UInt8:=packN bs ((bs.length+7)/8)
theorem packN_length (bs:List Bool)(m:Nat):(packN bs m).length=m:=by simp[packN]
theorem packL_length (bs:List Bool):(packL bs).length=(bs.length+7)/8:=packN_length _ _
theorem packN_at (bs:List Bool)(m j:Nat)(hj:j<m):(packN bs m)[j]?=some (byteOf λk=>bs.getD (8*j+k) false):=by simp[packN,hj]
theorem packN_bits (bs:List Bool)(m:Nat)(h:bs.length<=8*m):bitsOf (packN bs m)=bs++List.replicate (8*m-bs.length) false:=by
 apply List.ext_getElem?
 intro i
 by_cases hi:i<8*m
 ·rw[bits_at _ i _ (packN_at bs m (i/8) (by omega)),byteOf_test _ (i%8) (by omega),show 8*(i/8)+i%8=i by omega]
  by_cases hl:i<bs.length
  ·rw[List.getElem?_append_left hl];simp[hl]
  ·rw[List.getElem?_append_right (by omega),List.getElem?_replicate,if_pos (by omega)]
   simp[show bs.length<=i by omega]
 ·rw[List.getElem?_eq_none (by rw[bitsOf_length,packN_length];omega),List.getElem?_eq_none (by simp;omega)]
theorem packL_bits (bs:List Bool):bitsOf (packL bs)=bs++List.replicate (8*((bs.length+7)/8)-bs.length) false:=packN_bits bs _ (by omega)
theorem bitsOf_inj:∀ l m:List UInt8,bitsOf l=bitsOf m->l=m
 | [],[],_=>rfl
 | [],_::_,h=>by have:=congrArg List.length h;simp[bitsOf_length] at this
 | _::_,[],h=>by have:=congrArg List.length h;simp[bitsOf_length] at this
 | x :: l, y :: m, h => by
   have h1 : bitsU x = bitsU y ∧ bitsOf l = bitsOf m := by
     rw [bitsOf, bitsOf] at h
     exact List.append_inj h rfl
   rw [bitsOf_inj l m h1.2]
   congr 1
   apply u8_ext
   intro j hj
   have h2 := congrArg (fun l => l[7 - j]?) h1.1
   simp only [bitsU_at _ _ (show 7 - j < 8 by omega), show 7 - (7 - j) = j from by omega] at h2
   exact Option.some.inj h2
theorem packL_bytes (l:List UInt8):packL (bitsOf l)=l:=by
 apply bitsOf_inj
 rw[packL_bits,bitsOf_length,show 8*((8*l.length+7)/8)-8*l.length=0 by omega,List.replicate_zero,List.append_nil]
def stepS (W P s:Nat)(b:Bool):Nat:=(s*2%2^W)^^^(if (s.testBit (W-1) != b) then P else 0)
def runS (W P s:Nat):List Bool->Nat
 | []=>s
 | b::l=>runS W P (stepS W P s b) l
theorem runS_app (W P:Nat):∀ (l m:List Bool) (s:Nat),runS W P s (l++m)=runS W P (runS W P s l) m
 | [],_,_=>rfl
 | b::l,m,s=>by rw[List.cons_append,runS,runS,runS_app W P l m]
theorem stepS_lt (W P s:Nat)(hP:P<2^W)(b:Bool):stepS W P s b<2^W:=by
 unfold stepS
 refine Nat.xor_lt_two_pow (Nat.mod_lt _ (Nat.two_pow_pos W)) ?_
 split
 ·exact hP
 ·exact Nat.two_pow_pos W
theorem runS_lt (W P:Nat)(hP:P<2^W):∀ (l:List Bool) (s:Nat),s<2^W->runS W P s l<2^W
 | [],_,h=>h
 | b::l,s,_=>runS_lt W P hP l _ (stepS_lt W P s hP b)
def crcL (W P s:Nat)(l:List UInt8):Nat:=runS W P s (bitsOf l)
theorem crcL_lt (W P s:Nat)(hP:P<2^W)(hs:s<2^W)(l:List UInt8):crcL W P s l<2^W:=runS_lt W P hP _ s hs
def wholeP:Nat:=0x5D6DCB
def wholeS:Nat:=0xFEDCBA
def wholeL (l:List UInt8):Nat:=crcL 24 wholeP wholeS l
def sum3 (s:Nat):List UInt8:=[UInt8.ofNat (s/65536),UInt8.ofNat (s/256),UInt8.ofNat s]
def fixL (l:List UInt8):List UInt8:=l++sum3 (wholeL l)
def goodL (l:List UInt8):Bool:=decide (3<=l.length/\fixL (l.take (l.length-3))=l)
theorem wholeL_lt (l:List UInt8):wholeL l<16777216:=crcL_lt 24 wholeP wholeS (by decide) (by decide) l
theorem fix_good (l:List UInt8):goodL (fixL l)=true:=by
 unfold goodL
 have h:(fixL l).length=l.length+3:=by simp[fixL,sum3]
 rw[h]
 simp only[decide_eq_true_eq]
 refine⟨by omega,?_⟩
 rw[show l.length+3-3=l.length from by omega]
 unfold fixL
 rw[List.take_left]
end Go.Proofs.YthogohkieiogiaaGreatDoor
