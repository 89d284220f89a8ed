/-
  A node that asks and answers, over plain values: what it holds, and what its acts answer. No contract here.
-/
import Derived.Test.YtahnbljbhfpldaaGreatDoorRows
import Derived.Test.YtahnbljbhfpldaaGreatDoorSealB
import Derived.Test.YtahnbljbhfpldaaGreatDoorSchedA
namespace Go.Proofs.YtahnbljbhfpldaaGreatDoor
set_option maxRecDepth 20000
set_option maxHeartbeats 800000
def mayB (a d:Int):Bool:=decide (0<=d)&&decide (d<=49)&&decide (0<=a)&&decide (a<=1099511627776)
def r8upN (a b:Int):Int:=if a%b=0 then a/b else a/b+1
def mostN (a d:Int):Int:=a*(100+d)/(100-d)
theorem mayB_true {a d:Int}(h:mayB a d=true):0<=d/\d<=49/\0<=a/\a<=1099511627776:=by
 simp[mayB] at h;omega
theorem mayB_of {a d:Int}(h0:0<=d)(h1:d<=49)(h2:0<=a)(h3:a<=1099511627776):mayB a d=true:=by
 simp[mayB];omega
theorem upN_nonneg {x y:Int}(hx:0<=x)(hy:0<y):0<=r8upN x y:=by
 have:=Int.ediv_nonneg hx (show 0<=y by omega)
 unfold r8upN;split<;>omega
theorem prod_bound {a c:Int}(h2:0<=a)(h3:a<=1099511627776)(hc0:0<=c)(hc:c<=149):0<=a*c/\a*c<=163827232538624:=by
 refine⟨Int.mul_nonneg h2 hc0,?_⟩
 have:=Int.mul_le_mul h3 hc hc0 (show (0:Int)<=1099511627776 by omega)
 omega
theorem most_le {b a d:Int}(h1:d<=49):b<=mostN a d↔b*(100-d)<=a*(100+d):=by
 unfold mostN
 exact Int.le_ediv_iff_mul_le (by omega)
theorem le_most {a d:Int}(h0:0<=d)(h1:d<=49)(h2:0<=a):a<=mostN a d:=by
 rw[most_le h1]
 exact Int.mul_le_mul_of_nonneg_left (by omega) h2
theorem most_le3 {a d:Int}(h0:0<=d)(h1:d<=49)(h2:0<=a):mostN a d<=3*a:=by
 unfold mostN
 have:a*(100+d)<=3*a*(100-d):=by
  rw[Int.mul_comm 3 a,Int.mul_assoc]
  exact Int.mul_le_mul_of_nonneg_left (by omega) h2
 have h:=Int.ediv_le_ediv (show 0<100-d by omega) this
 rwa [Int.mul_ediv_cancel _ (show 100-d≠0 by omega)] at h
open Go.ChangeShapes Go.WideShapes Go.ChangeAt Go.RowKit
theorem right_ok (w:World)(a d:Int):
  Calls Tryz.prog 48 #[.int .i64 a,.int .i64 d] w λe w'=>e=.returned (.bool (mayB a d))/\w'=w:=by
 by_cases h0:0<=d
 ·by_cases h1:d<=49
  ·by_cases h2:0<=a
   ·by_cases h3:a<=1099511627776
    ·have hm:mayB a d=true:=mayB_of h0 h1 h2 h3
     rw[hm]
     go_enter Tryz.func48,Tryz.ntmps48
     go_wp2
     go_ret
     exact⟨by first|rfl|simp,rfl⟩
    ·have hm:mayB a d=false:=by simp[mayB,h3]
     rw[hm]
     go_enter Tryz.func48,Tryz.ntmps48
     go_wp2
     go_ret
     exact⟨by first|rfl|simp,rfl⟩
   ·have hm:mayB a d=false:=by simp[mayB,h2]
    rw[hm]
    go_enter Tryz.func48,Tryz.ntmps48
    go_wp2
    go_ret
    exact⟨by first|rfl|simp,rfl⟩
  ·have hm:mayB a d=false:=by simp[mayB,h1]
   rw[hm]
   go_enter Tryz.func48,Tryz.ntmps48
   go_wp2
   go_ret
   exact⟨by first|rfl|simp,rfl⟩
 ·have hm:mayB a d=false:=by simp[mayB,h0]
  rw[hm]
  go_enter Tryz.func48,Tryz.ntmps48
  go_wp2
  go_ret
  exact⟨by first|rfl|simp,rfl⟩
theorem fast_ok (w:World)(d:Int)(h0:0<=d)(h1:d<=49):
  Calls Tryz.prog 75 #[.int .i64 d] w λe w'=>e=.returned (.int .i64 (100+d))/\w'=w:=by
 have e1:IntKind.i64.wrap (100+d)=100+d:=by rw[IntKind.wrap_i64];omega
 go_enter Tryz.func75,Tryz.ntmps75
 go_wp2
 go_ret
 exact⟨by first|rfl|rw[e1],rfl⟩
theorem slow_ok (w:World)(d:Int)(h0:0<=d)(h1:d<=49):
  Calls Tryz.prog 76 #[.int .i64 d] w λe w'=>e=.returned (.int .i64 (100-d))/\w'=w:=by
 have e1:IntKind.i64.wrap (100-d)=100-d:=by rw[IntKind.wrap_i64];omega
 go_enter Tryz.func76,Tryz.ntmps76
 go_wp2
 go_ret
 exact⟨by first|rfl|rw[e1],rfl⟩
theorem quo_bound {x y:Int}(hx:0<=x)(hy:0<y):0<=x/y/\x/y<=x:=⟨Int.ediv_nonneg hx (by omega),Int.ediv_le_self _ hx⟩
theorem quodown_ok (w:World)(x y:Int)(hx:0<=x)(hx1:x<=163827232538624)(hy:0<y)(hy1:y<=149):
  Calls Tryz.prog 74 #[.int .i64 x,.int .i64 y,.int .i64 0] w λe w'=>e=.returned (.int .i64 (x/y))/\w'=w:=by
 obtain⟨q,hq⟩:∃ q,q=x/y:=⟨_,rfl⟩
 have hb:=quo_bound hx hy
 have e1:x.tdiv y=q:=by rw[hq];exact Int.tdiv_eq_ediv_of_nonneg hx
 rw[<-hq] at hb ⊢
 have y0:(y==0)=false:=by simp;omega
 have y1:¬ y=0:=by omega
 have e2:IntKind.i64.wrap q=q:=by rw[IntKind.wrap_i64];omega
 clear hq
 go_enter Tryz.func74,Tryz.ntmps74
 go_wp2
 go_ret
 exact⟨by first|rfl|rw[e1],rfl⟩
theorem inmost_ok (w:World)(a d:Int)(h0:0<=d)(h1:d<=49)(h2:0<=a)(h3:a<=1099511627776):
  Calls Tryz.prog 49 #[.int .i64 a,.int .i64 d] w λe w'=>e=.returned (.int .i64 (mostN a d))/\w'=w:=by
 have hb:=prod_bound (c:=100+d) h2 h3 (by omega) (by omega)
 obtain⟨c,hc⟩:∃ c,c=a*(100+d):=⟨_,rfl⟩
 obtain⟨f,hf⟩:∃ f,f=100+d:=⟨_,rfl⟩
 obtain⟨s,hs⟩:∃ s,s=100-d:=⟨_,rfl⟩
 have k1:=fast_ok w d h0 h1
 have k2:=slow_ok w d h0 h1
 have k3:=quodown_ok w c s (by omega) (by omega) (by omega) (by omega)
 have e0:mostN a d=c/s:=by rw[hc,hs];rfl
 rw[<-hc] at hb
 have e1:a*f=c:=by rw[hc,hf]
 have e2:IntKind.i64.wrap (a*f)=c:=by rw[e1,IntKind.wrap_i64];omega
 rw[<-hf] at k1
 rw[<-hs] at k2
 rw[e0]
 obtain⟨q,hq⟩:∃ q,q=c/s:=⟨_,rfl⟩
 rw[<-hq] at k3 ⊢
 clear e0 hc hf hs hq e1
 go_enter Tryz.func49,Tryz.ntmps49
 go_wp2_with fail
 refine k1.mono ?_
 rintro e w1 ⟨rfl,rfl⟩
 clear k1
 go_wp2_with fail
 refine k2.mono ?_
 rintro e w2 ⟨rfl,rfl⟩
 clear k2
 go_wp2_with fail
 refine k3.mono ?_
 rintro e w2 ⟨rfl,rfl⟩
 clear k3
 go_wp2
 go_ret
 exact⟨rfl,rfl⟩
def ansN (a d n:Int):Value:=if mayB a d=true then .tuple #[.int .i64 n,.int .i64 0] else .tuple #[.int .i64 0,.int .i64 1]
theorem may_ok (w:World)(a d:Int):
  Calls Tryz.prog 72 #[.int .i64 a,.int .i64 d] w λe w'=>e=.returned (.bool (mayB a d))/\w'=w:=by
 by_cases h0:0<=d
 ·by_cases h1:d<=49
  ·by_cases h2:0<=a
   ·by_cases h3:a<=1099511627776
    ·have hm:mayB a d=true:=mayB_of h0 h1 h2 h3
     rw[hm]
     go_enter Tryz.func72,Tryz.ntmps72
     go_wp2
     go_ret
     exact⟨by first|rfl|simp,rfl⟩
    ·have hm:mayB a d=false:=by simp[mayB,h3]
     rw[hm]
     go_enter Tryz.func72,Tryz.ntmps72
     go_wp2
     go_ret
     exact⟨by first|rfl|simp,rfl⟩
   ·have hm:mayB a d=false:=by simp[mayB,h2]
    rw[hm]
    go_enter Tryz.func72,Tryz.ntmps72
    go_wp2
    go_ret
    exact⟨by first|rfl|simp,rfl⟩
  ·have hm:mayB a d=false:=by simp[mayB,h1]
   rw[hm]
   go_enter Tryz.func72,Tryz.ntmps72
   go_wp2
   go_ret
   exact⟨by first|rfl|simp,rfl⟩
 ·have hm:mayB a d=false:=by simp[mayB,h0]
  rw[hm]
  go_enter Tryz.func72,Tryz.ntmps72
  go_wp2
  go_ret
  exact⟨by first|rfl|simp,rfl⟩
theorem refmost_ok (w:World)(a d:Int):
  Calls Tryz.prog 45 #[.int .i64 a,.int .i64 d] w λe w'=>e=.returned (ansN a d (mostN a d))/\w'=w:=by
 have k1:=may_ok w a d
 by_cases hm:mayB a d=true
 ·obtain⟨h0,h1,h2,h3⟩:=mayB_true hm
  have hb:=prod_bound (c:=100+d) h2 h3 (by omega) (by omega)
  rw[show ansN a d (mostN a d)=.tuple #[.int .i64 (mostN a d),.int .i64 0] from if_pos hm]
  rw[hm] at k1
  obtain⟨c,hc⟩:∃ c,c=a*(100+d):=⟨_,rfl⟩
  obtain⟨f,hf⟩:∃ f,f=100+d:=⟨_,rfl⟩
  obtain⟨s,hs⟩:∃ s,s=100-d:=⟨_,rfl⟩
  have e0:mostN a d=c/s:=by rw[hc,hs];rfl
  rw[<-hc] at hb
  have e1:a*f=c:=by rw[hc,hf]
  have e2:IntKind.i64.wrap (a*f)=c:=by rw[e1,IntKind.wrap_i64];omega
  have e3:IntKind.i64.wrap (100+d)=f:=by rw[IntKind.wrap_i64];omega
  have e4:IntKind.i64.wrap (100-d)=s:=by rw[IntKind.wrap_i64];omega
  have hqb:=quo_bound hb.1 (show 0<s by omega)
  obtain⟨q,hq⟩:∃ q,q=c/s:=⟨_,rfl⟩
  have e5:c.tdiv s=q:=by rw[hq];exact Int.tdiv_eq_ediv_of_nonneg hb.1
  rw[e0]
  rw[<-hq] at hqb ⊢
  have e6:IntKind.i64.wrap q=q:=by rw[IntKind.wrap_i64];omega
  have y0:(s==0)=false:=by simp;omega
  have y1:¬ s=0:=by omega
  have E3:Hid (100+d=f):=hf.symm
  have E4:Hid (100-d=s):=hs.symm
  clear e0 hc hf hs hq e1 hm h0 h1 h2 h3 hb hqb
  go_enter Tryz.func45,Tryz.ntmps45
  go_wp2_with fail
  refine k1.mono ?_
  rintro e w1 ⟨rfl,rfl⟩
  clear k1
  go_wp2
  go_ret2
  exact⟨rfl,rfl⟩
 ·rw[show ansN a d (mostN a d)=.tuple #[.int .i64 0,.int .i64 1] from if_neg hm]
  rw[Bool.eq_false_iff.2 hm] at k1
  clear hm
  go_enter Tryz.func45,Tryz.ntmps45
  go_wp2_with fail
  refine k1.mono ?_
  rintro e w1 ⟨rfl,rfl⟩
  clear k1
  go_wp2
  go_ret2
  exact⟨rfl,rfl⟩
end Go.Proofs.YtahnbljbhfpldaaGreatDoor
namespace Go.Proofs.YtahnbljbhfpldaaGreatDoor
set_option maxHeartbeats 800000
open Go.ChangeShapes Go.WideShapes Go.ChangeAt Go.RowKit
theorem most_ok (w:World)(a d:Int):
  Calls Tryz.prog 26 #[.int .i64 a,.int .i64 d] w λe w'=>e=.returned (ansN a d (mostN a d))/\w'=w:=by
 have k1:=right_ok w a d
 by_cases hm:mayB a d=true
 ·obtain⟨h0,h1,h2,h3⟩:=mayB_true hm
  have k2:=inmost_ok w a d h0 h1 h2 h3
  rw[show ansN a d (mostN a d)=.tuple #[.int .i64 (mostN a d),.int .i64 0] from if_pos hm]
  rw[hm] at k1
  obtain⟨q,hq⟩:∃ q,q=mostN a d:=⟨_,rfl⟩
  rw[<-hq] at k2 ⊢
  clear hq hm
  go_enter Tryz.func26,Tryz.ntmps26
  go_wp2_with fail
  refine k1.mono ?_
  rintro e w1 ⟨rfl,rfl⟩
  clear k1
  go_wp2_with fail
  refine k2.mono ?_
  rintro e w1 ⟨rfl,rfl⟩
  clear k2
  go_wp2
  go_ret2
  exact⟨rfl,rfl⟩
 ·rw[show ansN a d (mostN a d)=.tuple #[.int .i64 0,.int .i64 1] from if_neg hm]
  rw[Bool.eq_false_iff.2 hm] at k1
  clear hm
  go_enter Tryz.func26,Tryz.ntmps26
  go_wp2_with fail
  refine k1.mono ?_
  rintro e w1 ⟨rfl,rfl⟩
  clear k1
  go_wp2
  go_ret2
  exact⟨rfl,rfl⟩
end Go.Proofs.YtahnbljbhfpldaaGreatDoor
namespace Go.Proofs.YtahnbljbhfpldaaGreatDoor
set_option maxRecDepth 20000
structure Ec where
 c:Cf
 ms:List UInt8
 i:Int
 inc:Int
 ct:Nat
 ws:List (Option (Nat×Int))
def ecB (c:Cf)(ms:List UInt8)(i inc:Int):Bool:=okB c&&decide (0<=i/\i<c.n/\0<=inc/\inc<=65535/\ms.length=16)
def ecNew (c:Cf)(ms:List UInt8)(i inc:Int):Ec:=⟨c,ms,i,inc,0,List.replicate c.n.toNat none⟩
structure Ec.ok (s:Ec):Prop where
 cfg:okB s.c=true
 ms:s.ms.length=16
 node:0<=s.i/\s.i<s.c.n
 inc:0<=s.inc/\s.inc<=65535
 ct:s.ct<=4294967295
 num:s.ws.length=s.c.n.toNat
 wait:∀ p∈s.ws,∀ n t,p=some (n,t)->(0<n/\n<18446744073709551616)/\0<=t/\t<=1099511627776
theorem ecB_iff {c:Cf}{ms:List UInt8}{i inc:Int}:ecB c ms i inc=true↔okB c=true/\0<=i/\i<c.n/\0<=inc/\inc<=65535/\ms.length=16:=by simp[ecB]
theorem ecNew_ok {c:Cf}{ms:List UInt8}{i inc:Int}(h:ecB c ms i inc=true):(ecNew c ms i inc).ok:=by
 obtain⟨h1,h2,h3,h4,h5,h6⟩:=ecB_iff.1 h
 refine⟨h1,h6,⟨h2,h3⟩,⟨h4,h5⟩,Nat.zero_le _,by simp[ecNew],?_⟩
 intro p hp n t e
 have:=List.eq_of_mem_replicate hp
 rw[this] at e
 cases e
def pairK (ms:List UInt8)(i j:Int):List UInt8:=(pairP ms i j).1
def Ec.non (s:Ec):Nat:=s.inc.toNat*4294967296+(s.ct+1)
theorem Ec.non_lt {s:Ec}(h:s.ok)(hc:s.ct<4294967295):0<s.non/\s.non<18446744073709551616:=by
 have:=h.inc
 unfold Ec.non
 omega
def ecPing (i jj:Int)(n:Nat):Fr:=⟨2,i,jj,0,0,0,n,0,0,0,[],[],[]⟩
def Ec.askE (s:Ec)(jj now:Int):Int:=if 0<=jj/\jj<s.c.n/\jj≠s.i/\timeB now=true then (if 4294967295<=s.ct then 9 else 0) else 1
def Ec.askR (s:Ec)(jj now:Int):List UInt8:=if s.askE jj now=0 then sealR (pairK s.ms s.i jj) (ecPing s.i jj s.non) else []
def Ec.askV (s:Ec)(jj now:Int):Ec:=if s.askE jj now=0 then { s with ct:=s.ct+1,ws:=s.ws.set jj.toNat (some (s.non,now)) } else s
theorem Ec.askE_zero {s:Ec}{jj now:Int}:s.askE jj now=0↔(0<=jj/\jj<s.c.n/\jj≠s.i/\timeB now=true)/\s.ct<4294967295:=by
 unfold Ec.askE
 split
 ·rename_i h
  split
  ·rename_i h2;exact⟨(λh=>by cases h),λhh=>by have:=hh.2;omega⟩
  ·rename_i h2;exact⟨λ_=>⟨h,by omega⟩,λ_=>rfl⟩
 ·rename_i h;exact⟨(λh=>by cases h),λh'=>absurd h'.1 h⟩
theorem timeB_iff {t:Int}:timeB t=true↔0<=t/\t<=1099511627776:=by simp[timeB]
theorem Ec.askV_ok {s:Ec}(h:s.ok)(jj now:Int):(s.askV jj now).ok:=by
 unfold Ec.askV
 split
 ·rename_i h0
  obtain⟨⟨a,b,c,d⟩,e⟩:=Ec.askE_zero.1 h0
  refine⟨h.cfg,h.ms,h.node,h.inc,by show s.ct+1<=_;omega,by show (s.ws.set _ _).length=_;rw[List.length_set];exact h.num,?_⟩
  intro p hp n t e
  rcases List.mem_or_eq_of_mem_set hp with hp|rfl
  ·exact h.wait p hp n t e
  ·simp only[Option.some.injEq,Prod.mk.injEq] at e
   obtain⟨rfl,rfl⟩:=e
   exact⟨Ec.non_lt h (by omega),timeB_iff.1 d⟩
 ·exact h
def Ec.forV (s:Ec):Ec:={ s with ws:=List.replicate s.c.n.toNat none }
theorem Ec.forV_ok {s:Ec}(h:s.ok):s.forV.ok:=by
 refine⟨h.cfg,h.ms,h.node,h.inc,h.ct,by show (List.replicate _ _).length=_;simp[Ec.forV],?_⟩
 intro p hp n t e
 have:=List.eq_of_mem_replicate hp
 rw[this] at e
 cases e
def Ec.opE (s:Ec)(l:List UInt8):Int:=if getE l≠0 then (getE l:Nat) else if (getF l).k=1\/(getF l).t≠s.i then 1 else if holdsB (pairK s.ms (getF l).f s.i) (getF l)=false then 13 else 0
def Ec.opF (s:Ec)(l:List UInt8):Fr:=if s.opE l=0 then getF l else Fr.zero
def ecPong (i jj:Int)(n:Nat)(m e st ix:Int)(key:List UInt8):Fr:=⟨3,i,jj,e,st,0,n,m,0,ix,key,[],[]⟩
def Ec.repB (s:Ec)(F:Fr):Bool:=decide (F.k=2/\F.t=s.i)&&rightB F
def Ec.repF (s:Ec)(F:Fr)(m e st ix:Int)(key:List UInt8):Fr:=ecPong s.i F.f F.n m e st ix key
def Ec.repE (s:Ec)(F:Fr)(m e st ix:Int)(key:List UInt8):Int:=if s.repB F=true then tagE (pairK s.ms F.f s.i) (s.repF F m e st ix key) else 1
def Ec.repR (s:Ec)(F:Fr)(m e st ix:Int)(key:List UInt8):List UInt8:=if s.repB F=true then sealR (pairK s.ms F.f s.i) (s.repF F m e st ix key) else []
def Ec.heB (s:Ec)(F:Fr)(now:Int):Bool:=decide (F.k=3/\F.t=s.i)&&rightB F&&decide (F.f<s.c.n)&&timeB now
def Ec.at? (s:Ec)(F:Fr):Option (Nat×Int):=(s.ws[F.f.toNat]?).join
def Ec.heE (s:Ec)(F:Fr)(now:Int):Int:=
 if s.heB F now=true then (match s.at? F with
  | none=>6
  | some (n,t)=>if n≠F.n\/now<t then 6 else if s.c.v<now-t then 12 else 0) else 1
def Ec.heV (s:Ec)(F:Fr)(now:Int):Ec:=if s.heE F now=0\/s.heE F now=12 then { s with ws:=s.ws.set F.f.toNat none } else s
theorem Ec.heV_ok {s:Ec}(h:s.ok)(F:Fr)(now:Int):(s.heV F now).ok:=by
 unfold Ec.heV
 split
 ·refine⟨h.cfg,h.ms,h.node,h.inc,h.ct,by show (s.ws.set _ _).length=_;rw[List.length_set];exact h.num,?_⟩
  intro p hp n t e
  rcases List.mem_or_eq_of_mem_set hp with hp|rfl
  ·exact h.wait p hp n t e
  ·cases e
 ·exact h
structure An where
 f:Int
 lo:Int
 hi:Int
 e:Int
 s:Int
 i:Int
 key:List UInt8
def An.zero:An:=⟨0,0,0,0,0,0,[]⟩
def Ec.heA (s:Ec)(F:Fr)(now:Int):An:=
 if s.heE F now=0 then (match s.at? F with
  | none=>An.zero
  | some (_,t)=>⟨F.f,F.m-now,F.m+mostN (now-t) (s.c.r+s.c.l)-now,F.e,F.s,F.i,F.key⟩) else An.zero
end Go.Proofs.YtahnbljbhfpldaaGreatDoor
