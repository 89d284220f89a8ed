/- A helper. -/
import Derived.Test.YtmffplhaclnehaaGreatDoorGround
namespace Go.Proofs.YtmffplhaclnehaaGreatDoor
set_option maxRecDepth 20000
variable {x:Nat}
def fo (x k:Nat):Nat:=(x>>>k)|||((x<<<(32-k))%4294967296)
theorem Rh (x k:Nat)(hx:x<4294967296)(hk:k<32):fo x k=((BitVec.ofNat 32 x).rotateRight k).toNat:=by
 rw[BitVec.rotateRight_def]
 simp only[BitVec.toNat_or,BitVec.toNat_ushiftRight,BitVec.toNat_shiftLeft,BitVec.toNat_ofNat,fo]
 rw[Nat.mod_eq_of_lt (a:=k) hk,Nat.mod_eq_of_lt (a:=x) (b:=2^32) (by omega)]
theorem dP (x k:Nat)(hx:x<4294967296)(hk:k<32):fo x k<4294967296:=by
 rw[Rh x k hx hk];exact((BitVec.ofNat 32 x).rotateRight k).isLt
def be (l:List UInt8):Nat:=l.foldl (λx c=>x*256+c.toNat) 0
theorem GY (l:List UInt8)(c:UInt8):be (l++[c])=be l*256+c.toNat:=by simp[be,List.foldl_append]
theorem JY (l:List UInt8):∀ x B:Nat,x<B->l.foldl (λx c=>x*256+c.toNat) x<B*256^l.length:=by
 induction l with
 | nil=>intro x B h;simpa using h
 | cons c l ih =>
   intro x B h
   have hc := c.toNat_lt
   have h1 : x * 256 + c.toNat < B * 256 := by omega
   have h2 := ih (x * 256 + c.toNat) (B * 256) h1
   simp only [List.foldl_cons, List.length_cons]
   rw [show B * 256 ^ (l.length + 1) = B * 256 * 256 ^ l.length from by rw [Nat.pow_succ, Nat.mul_comm (256 ^ l.length) 256, Nat.mul_assoc]]
   exact h2
theorem NS (l:List UInt8):be l<256^l.length:=by have:=JY l 0 1 (by omega);simpa [be] using this
def w4 (x:Nat):List UInt8:=[UInt8.ofNat (x/16777216),UInt8.ofNat (x/65536),UInt8.ofNat (x/256),UInt8.ofNat x]
theorem JZ (x:Nat):(w4 x).length=4:=rfl
def oK (l:List Nat):List UInt8:=l.flatMap w4
theorem rE (l:List Nat):(oK l).length=4*l.length:=by
 induction l with
 | nil=>rfl
 | cons x l ih=>simp only[oK,List.flatMap_cons,List.length_append,JZ,List.length_cons] at *;omega
theorem Cx (l:List Nat)(x:Nat):oK (l++[x])=oK l++w4 x:=by simp[oK,List.flatMap_append]
def vF (x i j k:Nat):Nat:=fo x i^^^fo x j^^^fo x k
def XJ (x:Nat):Nat:=fo x 7^^^fo x 18^^^(x>>>3)
def XK (x:Nat):Nat:=fo x 17^^^fo x 19^^^(x>>>10)
theorem pK {y:Nat}(hx:x<4294967296)(hy:y<4294967296):x^^^y<4294967296:=Nat.xor_lt_two_pow (n:=32) hx hy
theorem lC {y:Nat}(hx:x<4294967296):x&&&y<4294967296:=Nat.lt_of_le_of_lt Nat.and_le_left hx
theorem Cy {k:Nat}(hx:x<4294967296):x>>>k<4294967296:=Nat.lt_of_le_of_lt (by rw[Nat.shiftRight_eq_div_pow];exact Nat.div_le_self _ _) hx
def lD (blk:List UInt8)(W:List Nat)(t:Nat):Nat:=
 if t<16 then be ((blk.drop (4*t)).take 4)
 else (XK (W.getD (t-2) 0)+W.getD (t-7) 0+XJ (W.getD (t-15) 0)+W.getD (t-16) 0)%4294967296
def wl (blk:List UInt8):Nat->List Nat
 | 0=>[]
 | t+1=>wl blk t++[lD blk (wl blk t) t]
theorem qE (blk:List UInt8):∀ t,(wl blk t).length=t
 | 0=>rfl
 | t+1=>by simp[wl,qE blk t]
theorem NT (blk:List UInt8)(W:List Nat)(t:Nat):lD blk W t<4294967296:=by
 unfold lD
 split
 ·have h:=NS ((blk.drop (4*t)).take 4)
  have h2:((blk.drop (4*t)).take 4).length<=4:=List.length_take_le _ _
  have h3:256^((blk.drop (4*t)).take 4).length<=256^4:=Nat.pow_le_pow_right (by omega) h2
  have h4:(256:Nat)^4=4294967296:=by decide
  omega
 ·exact Nat.mod_lt _ (by omega)
theorem zi (blk:List UInt8):∀ t,∀ x∈wl blk t,x<4294967296
 | 0=>by simp[wl]
 | t + 1 => by
   intro x hx
   simp only [wl, List.mem_append, List.mem_singleton] at hx
   rcases hx with hx | rfl
   · exact zi blk t x hx
   · exact NT _ _ _
theorem getD_lt {l:List Nat}(h:∀ x∈l,x<4294967296)(k:Nat):l.getD k 0<4294967296:=by
 rw[List.getD_eq_getElem?_getD]
 cases hk:l[k]? with
 | none=>simp
 | some x=>exact h x (List.mem_of_getElem? hk)
structure S8 where
 a:Nat
 b:Nat
 c:Nat
 d:Nat
 e:Nat
 f:Nat
 g:Nat
 h:Nat
def S8.small (s:S8):Prop:=s.a<4294967296/\s.b<4294967296/\s.c<4294967296/\s.d<4294967296/\s.e<4294967296/\s.f<4294967296/\s.g<4294967296/\s.h<4294967296
def S8.list (s:S8):List Nat:=[s.a,s.b,s.c,s.d,s.e,s.f,s.g,s.h]
theorem S8.lF {s:S8}(hs:s.small):∀ x∈s.list,x<4294967296:=by
 obtain⟨h1,h2,h3,h4,h5,h6,h7,h8⟩:=hs
 simp[S8.list];omega
def ch (e f g:Nat):Nat:=(e&&&f)^^^((4294967295-e)&&&g)
def maj (a b c:Nat):Nat:=(a&&&b)^^^(a&&&c)^^^(b&&&c)
def T1 (k w:Nat)(s:S8):Nat:=(s.h+vF s.e 6 11 25+ch s.e s.f s.g+k+w)%4294967296
def T2 (s:S8):Nat:=(vF s.a 2 13 22+maj s.a s.b s.c)%4294967296
def VB (k w:Nat)(s:S8):S8:=⟨(T1 k w s+T2 s)%4294967296,s.a,s.b,s.c,(s.d+T1 k w s)%4294967296,s.e,s.f,s.g⟩
theorem J2 {k w:Nat}{s:S8}(hs:s.small):(VB k w s).small:=by
 obtain⟨h1,h2,h3,h4,h5,h6,h7,h8⟩:=hs
 exact⟨Nat.mod_lt _ (by omega),h1,h2,h3,Nat.mod_lt _ (by omega),h5,h6,h7⟩
def rF:List Nat:=[0x428a2f98,0x71374491,0xb5c0fbcf,0xe9b5dba5,0x3956c25b,0x59f111f1,0x923f82a4,0xab1c5ed5,
 0xd807aa98,0x12835b01,0x243185be,0x550c7dc3,0x72be5d74,0x80deb1fe,0x9bdc06a7,0xc19bf174,
 0xe49b69c1,0xefbe4786,0x0fc19dc6,0x240ca1cc,0x2de92c6f,0x4a7484aa,0x5cb0a9dc,0x76f988da,
 0x983e5152,0xa831c66d,0xb00327c8,0xbf597fc7,0xc6e00bf3,0xd5a79147,0x06ca6351,0x14292967,
 0x27b70a85,0x2e1b2138,0x4d2c6dfc,0x53380d13,0x650a7354,0x766a0abb,0x81c2c92e,0x92722c85,
 0xa2bfe8a1,0xa81a664b,0xc24b8b70,0xc76c51a3,0xd192e819,0xd6990624,0xf40e3585,0x106aa070,
 0x19a4c116,0x1e376c08,0x2748774c,0x34b0bcb5,0x391c0cb3,0x4ed8aa4a,0x5b9cca4f,0x682e6ff3,
 0x748f82ee,0x78a5636f,0x84c87814,0x8cc70208,0x90befffa,0xa4506ceb,0xbef9a3f7,0xc67178f2]
def start:S8:=⟨0x6a09e667,0xbb67ae85,0x3c6ef372,0xa54ff53a,0x510e527f,0x9b05688c,0x1f83d9ab,0x5be0cd19⟩
theorem uX:rF.length=64:=rfl
theorem pM:start.small:=by unfold S8.small start;decide
def jL (W:List Nat)(s:S8):Nat->S8
 | 0=>s
 | t+1=>VB (rF.getD t 0) (W.getD t 0) (jL W s t)
theorem rG (W:List Nat){s:S8}(hs:s.small):∀ t,(jL W s t).small
 | 0=>hs
 | t+1=>J2 (rG W hs t)
def mM (s r:S8):S8:=⟨(s.a+r.a)%4294967296,(s.b+r.b)%4294967296,(s.c+r.c)%4294967296,(s.d+r.d)%4294967296,
 (s.e+r.e)%4294967296,(s.f+r.f)%4294967296,(s.g+r.g)%4294967296,(s.h+r.h)%4294967296⟩
theorem E9 (s r:S8):(mM s r).small:=⟨Nat.mod_lt _ (by omega),Nat.mod_lt _ (by omega),Nat.mod_lt _ (by omega),Nat.mod_lt _ (by omega),Nat.mod_lt _ (by omega),Nat.mod_lt _ (by omega),Nat.mod_lt _ (by omega),Nat.mod_lt _ (by omega)⟩
def cz (s:S8)(blk:List UInt8):S8:=mM s (jL (wl blk 64) s 64)
theorem gQ (s:S8)(blk:List UInt8):(cz s blk).small:=E9 _ _
def dF (s:S8)(bs:List UInt8):Nat->S8
 | 0=>s
 | n+1=>cz (dF s bs n) ((bs.drop (64*n)).take 64)
theorem nY {s:S8}(hs:s.small)(bs:List UInt8):∀ n,(dF s bs n).small
 | 0=>hs
 | _+1=>gQ _ _
theorem lY (s:S8)(bs cs:List UInt8):∀ n,64*n<=bs.length->dF s (bs++cs) n=dF s bs n
 | 0,_=>rfl
 | n + 1, h => by
   simp only [dF]
   rw [lY s bs cs n (by omega)]
   congr 1
   rw [List.drop_append_of_le_length (by omega), List.take_append_of_le_length (by simp; omega)]
theorem sU (s:S8)(bs:List UInt8)(n:Nat):∀ m,dF s bs (n+m)=dF (dF s bs n) (bs.drop (64*n)) m
 | 0=>rfl
 | m + 1 => by
   show cz (dF s bs (n + m)) _ = cz (dF (dF s bs n) (bs.drop (64 * n)) m) _
   rw [sU s bs n m, List.drop_drop, show 64 * n + 64 * m = 64 * (n.add m) from (Nat.mul_add 64 n m).symm]
def zs (n:Nat):Nat:=(119-n%64)%64
def pad (l:List UInt8)(size:Nat):List UInt8:=l++[0x80]++List.replicate (zs l.length) 0++oK [8*size/4294967296,8*size%4294967296]
theorem rH (l:List UInt8)(size:Nat):(pad l size).length=l.length+9+zs l.length:=by
 simp only[pad,List.length_append,List.length_replicate,rE,List.length_cons,List.length_nil];omega
theorem AL (l:List UInt8)(size:Nat):(pad l size).length%64=0:=by rw[rH];unfold zs;omega
theorem Tj (n:Nat):zs n<64:=Nat.mod_lt _ (by omega)
def jR (bs:List UInt8):List UInt8:=oK (dF start (pad bs bs.length) ((pad bs bs.length).length/64)).list
theorem lX (bs:List UInt8):(jR bs).length=32:=by simp[jR,rE,S8.list]
def aJ (bs:List UInt8):S8:=dF start bs (bs.length/64)
def leftOf (bs:List UInt8):List UInt8:=bs.drop (64*(bs.length/64))
theorem iJ (bs:List UInt8):(aJ bs).small:=nY pM _ _
theorem aL (bs:List UInt8):(leftOf bs).length=bs.length%64:=by simp[leftOf];omega
theorem UQ (bs:List UInt8):oK (dF (aJ bs) (pad (leftOf bs) bs.length) ((pad (leftOf bs) bs.length).length/64)).list=jR bs:=by
 have hl:=aL bs
 have hz:zs (leftOf bs).length=zs bs.length:=by rw[hl];unfold zs;omega
 have hsplit:bs=bs.take (64*(bs.length/64))++leftOf bs:=(List.take_append_drop _ _).symm
 have htl:(bs.take (64*(bs.length/64))).length=64*(bs.length/64):=by simp;omega
 have hp:pad bs bs.length=bs.take (64*(bs.length/64))++pad (leftOf bs) bs.length:=by
  unfold pad
  rw[hz]
  conv=>lhs;lhs;lhs;lhs;rw[hsplit]
  simp only[List.append_assoc]
 have hlen:(pad bs bs.length).length/64=bs.length/64+(pad (leftOf bs) bs.length).length/64:=by
  rw[hp,List.length_append,htl];omega
 unfold jR
 rw[hlen,sU,hp,List.drop_left' htl,lY _ _ _ _ (by rw[htl];exact Nat.le_refl _)]
 congr 3
 unfold aJ
 conv=>lhs;rw[hsplit]
 rw[lY _ _ _ _ (by rw[<-hsplit,htl];exact Nat.le_refl _)]
 congr 1
 rw[<-hsplit]
theorem xx (bs cs:List UInt8):(bs++cs).drop (64*(bs.length/64))=leftOf bs++cs:=by
 unfold leftOf
 rw[List.drop_append_of_le_length (by omega)]
theorem xy (bs cs:List UInt8):dF start (bs++cs) (bs.length/64)=aJ bs:=by
 unfold aJ
 exact lY _ _ _ _ (by omega)
theorem sV (bs cs:List UInt8)(h:(leftOf bs).length+cs.length<64):aJ (bs++cs)=aJ bs/\leftOf (bs++cs)=leftOf bs++cs:=by
 have hl:=aL bs
 have hq:(bs++cs).length/64=bs.length/64:=by rw[List.length_append];omega
 constructor
 ·rw[<-xy bs cs];unfold aJ;rw[hq]
 ·rw[<-xx bs cs];unfold leftOf;rw[hq]
theorem kH (bs cs p r:List UInt8)(hc:cs=p++r)(hp:(leftOf bs++p).length=64):
  aJ (bs++cs)=dF (cz (aJ bs) (leftOf bs++p)) r (r.length/64)/\leftOf (bs++cs)=r.drop (64*(r.length/64)):=by
 have hl:=aL bs
 have hpl:(leftOf bs).length+p.length=64:=by rw[<-List.length_append];exact hp
 have hcl:cs.length=p.length+r.length:=by rw[hc,List.length_append]
 have hq:(bs++cs).length/64=bs.length/64+(1+r.length/64):=by rw[List.length_append];omega
 have hd:(bs++cs).drop (64*(bs.length/64))=(leftOf bs++p)++r:=by rw[xx,hc,List.append_assoc]
 constructor
 ·unfold aJ
  rw[hq,sU,xy,hd,sU]
  have h1:((leftOf bs++p)++r).drop (64*1)=r:=List.drop_left' hp
  have h2:dF (aJ bs) ((leftOf bs++p)++r) 1=cz (aJ bs) (leftOf bs++p):=by
   show cz (aJ bs) ((((leftOf bs++p)++r).drop 0).take 64)=_
   rw[List.drop_zero,List.take_left' hp]
  rw[h1,h2]
  rfl
 ·unfold leftOf at *
  rw[hq,Nat.mul_add,<-List.drop_drop]
  have e:(bs++cs).drop (64*(bs.length/64))=(bs.drop (64*(bs.length/64))++p)++r:=hd
  rw[e,Nat.mul_add,<-List.drop_drop,List.drop_left' hp]
def iq (key:List UInt8):List UInt8:=if 64<key.length then jR key else key
def dJ (key:List UInt8):List UInt8:=iq key++List.replicate (64-(iq key).length) 0
def vE (key:List UInt8)(c:UInt8):List UInt8:=(dJ key).map (· ^^^ c)
def tH (key:List UInt8):List UInt8:=vE key 0x36
def uu (key:List UInt8):List UInt8:=vE key 0x5C
def gI (key b:List UInt8):List UInt8:=jR (uu key++jR (tH key++b))
theorem qD (key:List UInt8):(iq key).length<=64:=by
 unfold iq;split
 ·rw[lX];omega
 ·omega
theorem gY (key:List UInt8):(dJ key).length=64:=by
 have:=qD key
 simp[dJ];omega
theorem eF (key:List UInt8)(c:UInt8):(vE key c).length=64:=by simp[vE,gY]
theorem gZ (key b:List UInt8):(gI key b).length=32:=lX _
theorem GZ (key:List UInt8)(c:UInt8)(i:Nat)(hi:i<64):(vE key c)[i]?=some (((iq key)[i]?.getD 0)^^^c):=by
 unfold vE dJ
 rw[List.getElem?_map]
 by_cases h:i<(iq key).length
 ·rw[List.getElem?_append_left h];simp[h]
 ·rw[List.getElem?_append_right (by omega),List.getElem?_replicate,if_pos (by omega)]
  simp[show (iq key).length<=i by omega]
def tK (key info:List UInt8):Nat->List UInt8
 | 0=>[]
 | i+1=>gI key (tK key info i++info++[UInt8.ofNat (i+1)])
def j6 (key info:List UInt8):Nat->List UInt8
 | 0=>[]
 | i+1=>j6 key info i++tK key info (i+1)
def eH (key info:List UInt8)(n:Nat):List UInt8:=(j6 key info ((n+31)/32)).take n
theorem zk (key info:List UInt8)(i:Nat)(h:0<i):(tK key info i).length=32:=by
 cases i with
 | zero=>omega
 | succ i=>exact gZ _ _
theorem ZA (key info:List UInt8)(i:Nat):(tK key info i).length<=32:=by
 cases i with
 | zero=>simp[tK]
 | succ i=>rw[zk _ _ _ (by omega)];exact Nat.le_refl _
theorem jK (key info:List UInt8):∀ i,(j6 key info i).length=32*i
 | 0=>rfl
 | i+1=>by rw[j6,List.length_append,jK key info i,zk _ _ _ (by omega)];omega
theorem zl (key info:List UInt8)(k:Nat):∀ j,∃ r,j6 key info (k+j)=j6 key info k++r
 | 0=>⟨[],by simp⟩
 | j + 1 => by
   obtain ⟨r, hr⟩ := zl key info k j
   exact ⟨r ++ tK key info (k + j + 1), by rw [← Nat.add_assoc, j6, hr, List.append_assoc]⟩
theorem zg (key info:List UInt8)(k n:Nat)(h:n<=32*k):(j6 key info k).take n=eH key info n:=by
 obtain⟨r,hr⟩:=zl key info ((n+31)/32) (k-(n+31)/32)
 rw[show (n+31)/32+(k-(n+31)/32)=k from by omega] at hr
 unfold eH
 rw[hr,List.take_append_of_le_length (by rw[jK];omega)]
theorem xz (key info:List UInt8)(n:Nat):(eH key info n).length=n:=by
 unfold eH;rw[List.length_take,jK];omega
def ig (s:List UInt8):Bool:=s.all (λc=>decide (97<=c.toNat/\c.toNat<=122))&&decide (1<=s.length/\s.length<=64)
def iI:List Nat->List UInt8
 | []=>[]
 | n::l=>oK [n/4294967296,n%4294967296]++iI l
theorem pI:∀ (l:List Nat) (n:Nat),iI (l++[n])=iI l++oK [n/4294967296,n%4294967296]
 | [],n=>by simp[iI]
 | x::l,n=>by simp[iI,pI l n]
theorem jD:∀ l:List Nat,(iI l).length=8*l.length
 | []=>rfl
 | n::l=>by rw[iI,List.length_append,jD l,rE];simp;omega
def jU (name:List UInt8)(l:List Nat):List UInt8:=name++[0]++iI l
def keyOf (from_ name:List UInt8)(l:List Nat):List UInt8:=eH from_ (jU name l) 16
theorem nQ (f n:List UInt8)(l:List Nat):(keyOf f n l).length=16:=xz _ _ _
def jT (x:UInt8):List Bool:=[x.toNat.testBit 7,x.toNat.testBit 6,x.toNat.testBit 5,x.toNat.testBit 4,x.toNat.testBit 3,x.toNat.testBit 2,x.toNat.testBit 1,x.toNat.testBit 0]
def bitsOf:List UInt8->List Bool
 | []=>[]
 | x::l=>jT x++bitsOf l
theorem sw (x:UInt8):(jT x).length=8:=rfl
theorem aC:∀ l:List UInt8,(bitsOf l).length=8*l.length
 | []=>rfl
 | x::l=>by rw[bitsOf,List.length_append,aC l];simp[jT];omega
theorem gL:∀ l m:List UInt8,bitsOf (l++m)=bitsOf l++bitsOf m
 | [],_=>rfl
 | x::l,m=>by rw[List.cons_append,bitsOf,bitsOf,gL l m,List.append_assoc]
theorem xA (x:UInt8)(j:Nat)(hj:j<8):(jT x)[j]?=some (x.toNat.testBit (7-j)):=by
 have hc:j=0\/j=1\/j=2\/j=3\/j=4\/j=5\/j=6\/j=7:=by omega
 rcases hc with rfl|rfl|rfl|rfl|rfl|rfl|rfl|rfl<;>rfl
theorem rZ:∀ (l:List UInt8) (i:Nat) (x:UInt8),l[i/8]?=some x->(bitsOf l)[i]?=some (x.toNat.testBit (7-i%8))
 | [],i,x,h=>by simp at h
 | y :: l, i, x, h => by
   rw [bitsOf]
   by_cases hi : i < 8
   · have h0 : i / 8 = 0 := by omega
     rw [h0] at h
     simp at h
     subst h
     rw [List.getElem?_append_left (by simp [jT]; exact hi), xA y i hi, show i % 8 = i from by omega]
   · have h8 : i / 8 = (i - 8) / 8 + 1 := by omega
     rw [h8, List.getElem?_cons_succ] at h
     have := rZ l (i - 8) x h
     rw [List.getElem?_append_right (by simp [jT]; omega), show (jT y).length = 8 from rfl, this, show (i - 8) % 8 = i % 8 from by omega]
theorem D8 (x y:UInt8)(h:∀ j,j<8->x.toNat.testBit j=y.toNat.testBit j):x=y:=by
 apply UInt8.toNat_inj.1
 apply Nat.eq_of_testBit_eq
 intro j
 by_cases hj:j<8
 ·exact h j hj
 ·have hp:(256:Nat)<=2^j:=Nat.pow_le_pow_right (n:=2) (i:=8) (by omega) (by omega)
  rw[Nat.testBit_lt_two_pow (Nat.lt_of_lt_of_le x.toNat_lt hp),Nat.testBit_lt_two_pow (Nat.lt_of_lt_of_le y.toNat_lt hp)]
def az (n:Nat):Nat->List Bool
 | 0=>[]
 | w+1=>n.testBit w::az n w
theorem ak (n:Nat):∀ w,(az n w).length=w
 | 0=>rfl
 | w+1=>by rw[az,List.length_cons,ak n w]
theorem qY (x:UInt8):az x.toNat 8=jT x:=rfl
theorem vT (n:Nat):∀ (w k:Nat),k<w->(az n w).take (k+1)=(az n w).take k++[n.testBit (w-1-k)]
 | 0,k,h=>by omega
 | w+1,0,_=>by simp[az]
 | w + 1, k + 1, h => by
   rw [az, List.take_succ_cons, List.take_succ_cons, vT n w k (by omega), List.cons_append]
   congr 4
   omega
def num (l:List Bool):Nat:=l.foldl (λa b=>2*a+b.toNat) 0
theorem BA (l:List Bool)(b:Bool):num (l++[b])=2*num l+b.toNat:=by simp[num]
theorem mg:∀ l:List Bool,num l<2^l.length:=by
 intro l
 generalize hn:l.length=n
 induction n generalizing l with
 | zero=>rw[List.eq_nil_of_length_eq_zero hn];simp[num]
 | succ n ih =>
   obtain ⟨m, b, rfl⟩ : ∃ m b, l = m ++ [b] := ⟨l.dropLast, l.getLast (by rintro rfl; simp at hn), (List.dropLast_concat_getLast _).symm⟩
   have := ih m (by simpa using hn)
   rw [BA, Nat.pow_succ]
   cases b <;> simp <;> omega
theorem qm:∀ (l:List Bool) (a:Nat),l.foldl (λa b=>2*a+b.toNat) a=a*2^l.length+num l
 | [],a=>by simp[num]
 | b :: l, a => by
   show l.foldl _ (2 * a + b.toNat) = _
   have h2 : num (b :: l) = b.toNat * 2 ^ l.length + num l := by
     show l.foldl _ (2 * 0 + b.toNat) = _
     rw [qm l, Nat.mul_zero, Nat.zero_add]
   rw [qm l, h2, List.length_cons, Nat.pow_succ, Nat.add_mul, Nat.mul_comm 2 a, Nat.mul_assoc, Nat.mul_comm 2, ← Nat.add_assoc]
theorem su (b:Bool)(l:List Bool):num (b::l)=b.toNat*2^l.length+num l:=by
 show l.foldl _ (2*0+b.toNat)=_
 rw[qm l,Nat.mul_zero,Nat.zero_add]
theorem tO (n:Nat):∀ w,num (az n w)=n%2^w
 | 0=>by simp[az,num,Nat.mod_one]
 | w + 1 => by
   rw [az, su, ak, tO n w, Nat.pow_succ]
   have h1 : (n.testBit w).toNat = n / 2 ^ w % 2 := by
     rw [Nat.testBit_eq_decide_div_mod_eq]
     have : n / 2 ^ w % 2 < 2 := Nat.mod_lt _ (by omega)
     by_cases h : n / 2 ^ w % 2 = 1
     · simp [h]
     · rw [show n / 2 ^ w % 2 = 0 by omega]; rfl
   rw [h1, Nat.mod_mul, Nat.mul_comm, Nat.add_comm]
def byteOf (f:Nat->Bool):UInt8:=UInt8.ofNat (num [f 0,f 1,f 2,f 3,f 4,f 5,f 6,f 7])
theorem byteOf_toNat (f:Nat->Bool):(byteOf f).toNat=num [f 0,f 1,f 2,f 3,f 4,f 5,f 6,f 7]:=by
 have:=mg [f 0,f 1,f 2,f 3,f 4,f 5,f 6,f 7]
 unfold byteOf
 rw[UInt8.toNat_ofNat']
 exact Nat.mod_eq_of_lt this
theorem uG (f:Nat->Bool):jT (byteOf f)=[f 0,f 1,f 2,f 3,f 4,f 5,f 6,f 7]:=by
 unfold jT
 rw[byteOf_toNat]
 cases f 0<;>cases f 1<;>cases f 2<;>cases f 3<;>cases f 4<;>cases f 5<;>cases f 6<;>cases f 7<;>rfl
theorem jG (f:Nat->Bool)(k:Nat)(hk:k<8):(byteOf f).toNat.testBit (7-k)=f k:=by
 have h:=xA (byteOf f) k hk
 rw[uG] at h
 have hc:k=0\/k=1\/k=2\/k=3\/k=4\/k=5\/k=6\/k=7:=by omega
 rcases hc with rfl|rfl|rfl|rfl|rfl|rfl|rfl|rfl<;>exact(Option.some.inj h).symm
theorem uI (f g:Nat->Bool)(h:∀ k,k<8->f k=g k):byteOf f=byteOf g:=by
 unfold byteOf
 rw[h 0 (by omega),h 1 (by omega),h 2 (by omega),h 3 (by omega),h 4 (by omega),h 5 (by omega),h 6 (by omega),h 7 (by omega)]
def dK (bs:List Bool)(m:Nat):List UInt8:=(List.range m).map λj=>byteOf λk=>bs.getD (8*j+k) false
def aZ (bs:List Bool):List UInt8:=dK bs ((bs.length+7)/8)
theorem aQ (bs:List Bool)(m:Nat):(dK bs m).length=m:=by simp[dK]
theorem dH (bs:List Bool):(aZ bs).length=(bs.length+7)/8:=aQ _ _
theorem gM (bs:List Bool)(m j:Nat)(hj:j<m):(dK bs m)[j]?=some (byteOf λk=>bs.getD (8*j+k) false):=by simp[dK,hj]
theorem Fa (bs:List Bool)(m:Nat)(h:bs.length<=8*m):bitsOf (dK bs m)=bs++List.replicate (8*m-bs.length) false:=by
 apply List.ext_getElem?
 intro i
 by_cases hi:i<8*m
 ·rw[rZ _ i _ (gM bs m (i/8) (by omega)),jG _ (i%8) (by omega),show 8*(i/8)+i%8=i by omega]
  by_cases hl:i<bs.length
  ·rw[List.getElem?_append_left hl];simp[hl]
  ·rw[List.getElem?_append_right (by omega),List.getElem?_replicate,if_pos (by omega)]
   simp[show bs.length<=i by omega]
 ·rw[List.getElem?_eq_none (by rw[aC,aQ];omega),List.getElem?_eq_none (by simp;omega)]
theorem jl (bs:List Bool):bitsOf (aZ bs)=bs++List.replicate (8*((bs.length+7)/8)-bs.length) false:=Fa bs _ (by omega)
theorem nO:∀ l m:List UInt8,bitsOf l=bitsOf m->l=m
 | [],[],_=>rfl
 | [],_::_,h=>by have:=congrArg List.length h;simp[aC] at this
 | _::_,[],h=>by have:=congrArg List.length h;simp[aC] at this
 | x :: l, y :: m, h => by
   have h1 : jT    x = jT    y ∧ bitsOf l = bitsOf m := by
     rw [bitsOf, bitsOf] at h
     exact List.append_inj h rfl
   rw [nO l m h1.2]
   congr 1
   apply D8
   intro j hj
   have h2 := congrArg (fun l => l[7 - j]?) h1.1
   simp only [xA _ _ (show 7 - j < 8 by omega), show 7 - (7 - j) = j from by omega] at h2
   exact Option.some.inj h2
theorem oU (l:List UInt8):aZ (bitsOf l)=l:=by
 apply nO
 rw[jl,aC,show 8*((8*l.length+7)/8)-8*l.length=0 by omega,List.replicate_zero,List.append_nil]
theorem LF (bs:List Bool)(m i:Nat)(hi:i<bs.length)(hm:i/8<m)(x:UInt8)(hx:(dK (bs.take i) m)[i/8]?=some x):
  (dK (bs.take i) m).set (i/8) (if bs[i]=true then x|||UInt8.ofNat (2^(7-i%8)) else x)=dK (bs.take (i+1)) m:=by
 have UR:x=byteOf λk=>(bs.take i).getD (8*(i/8)+k) false:=by
  rw[gM _ _ _ hm] at hx;exact(Option.some.inj hx).symm
 apply List.ext_getElem?
 intro j
 rw[List.getElem?_set]
 by_cases hj:i/8=j
 ·subst hj
  rw[if_pos rfl,if_pos (by rw[aQ];exact hm),gM _ _ _ hm]
  congr 1
  apply D8
  intro t ht
  obtain⟨k,hk,rfl⟩:∃ k,k<8/\t=7-k:=⟨7-t,by omega,by omega⟩
  rw[jG _ k hk]
  have hold:x.toNat.testBit (7-k)=(bs.take i).getD (8*(i/8)+k) false:=by rw[UR,jG _ k hk]
  have XL:(UInt8.ofNat (2^(7-i%8))).toNat=2^(7-i%8):=by
   rw[UInt8.toNat_ofNat']
   have hp:2^(7-i%8)<2^8:=Nat.pow_lt_pow_right (by omega) (by omega)
   exact Nat.mod_eq_of_lt hp
  have htk:∀ q p:Nat,(bs.take p).getD q false=(decide (q<p)&&bs.getD q false):=λq p=>by
   rw[List.getD_eq_getElem?_getD,List.getElem?_take,List.getD_eq_getElem?_getD]
   by_cases h:q<p<;>simp[h]
  rw[htk] at hold ⊢
  by_cases hki:8*(i/8)+k=i
  ·have hkm:k=i%8:=by omega
   rw[hki] at hold ⊢
   have hb:bs.getD i false=bs[i]:=by simp[hi]
   rw[hb]
   simp only[Nat.lt_irrefl,decide_false,Bool.false_and] at hold
   by_cases hbi:bs[i]=true
   ·rw[if_pos hbi,UInt8.toNat_or,Nat.testBit_or,XL,hkm,Nat.testBit_two_pow_self,hbi];simp
   ·rw[if_neg hbi,hold]
    have:bs[i]=false:=by simpa using hbi
    rw[this];simp
  ·have hle:decide (8*(i/8)+k<i+1)=decide (8*(i/8)+k<i):=by
    by_cases h:8*(i/8)+k<i
    ·simp[h];omega
    ·have:¬ 8*(i/8)+k<i+1:=by omega
     simp[h,this]
   rw[hle,<-hold]
   by_cases hbi:bs[i]=true
   ·rw[if_pos hbi,UInt8.toNat_or,Nat.testBit_or,XL,Nat.testBit_two_pow_of_ne (by omega)];simp
   ·rw[if_neg hbi]
 ·rw[if_neg hj]
  by_cases hjm:j<m
  ·rw[gM _ _ _ hjm,gM _ _ _ hjm]
   congr 1
   apply uI
   intro k hk
   rw[List.getD_eq_getElem?_getD,List.getElem?_take,List.getD_eq_getElem?_getD,List.getElem?_take]
   by_cases h:8*j+k<i
   ·simp[h,show 8*j+k<i+1 by omega]
   ·simp[h,show ¬ 8*j+k<i+1 by omega]
  ·rw[List.getElem?_eq_none (by rw[aQ];omega),List.getElem?_eq_none (by rw[aQ];omega)]
def yO (W P s:Nat)(b:Bool):Nat:=(s*2%2^W)^^^(if (s.testBit (W-1) != b) then P else 0)
def nu (W P s:Nat):List Bool->Nat
 | []=>s
 | b::l=>nu W P (yO W P s b) l
theorem BS (W P:Nat):∀ (l m:List Bool) (s:Nat),nu W P s (l++m)=nu W P (nu W P s l) m
 | [],_,_=>rfl
 | b::l,m,s=>by rw[List.cons_append,nu,nu,BS W P l m]
theorem NU (W P s:Nat)(hP:P<2^W)(b:Bool):yO W P s b<2^W:=by
 unfold yO
 refine Nat.xor_lt_two_pow (Nat.mod_lt _ (Nat.two_pow_pos W)) ?_
 split
 ·exact hP
 ·exact Nat.two_pow_pos W
theorem Ae (W P:Nat)(hP:P<2^W):∀ (l:List Bool) (s:Nat),s<2^W->nu W P s l<2^W
 | [],_,h=>h
 | b::l,s,_=>Ae W P hP l _ (NU W P s hP b)
def Ac (W P s:Nat)(l:List UInt8):Nat:=nu W P s (bitsOf l)
theorem Ri (W P s:Nat)(hP:P<2^W)(hs:s<2^W)(l:List UInt8):Ac W P s l<2^W:=Ae W P hP _ s hs
def NV:Nat:=0x5D6DCB
def NW:Nat:=0xFEDCBA
def mq (l:List UInt8):Nat:=Ac 24 NV NW l
def mD (s:Nat):List UInt8:=[UInt8.ofNat (s/65536),UInt8.ofNat (s/256),UInt8.ofNat s]
def sj (l:List UInt8):List UInt8:=l++mD (mq l)
def iQ (l:List UInt8):Bool:=decide (3<=l.length/\sj (l.take (l.length-3))=l)
theorem ug (l:List UInt8):mq l<16777216:=Ri 24 NV NW (by decide) (by decide) l
end Go.Proofs.YtmffplhaclnehaaGreatDoor
