/-
  The iterator over what waits: each frame of each index, with its key.
  The program's receiver: what is released, by a range over a function.
  The contract of release.
-/
import Derived.Test.YthogohkieiogiaaGreatDoorTesI
import Derived.Test.YthogohkieiogiaaGreatDoorTesG
import Derived.Shelf.RegionOpen
namespace Go.Proofs.YthogohkieiogiaaGreatDoor
set_option maxRecDepth 100000
set_option maxHeartbeats 16000000
open Go.ChangeShapes Go.WideShapes Go.ChangeAt Go.RowKit Go.Shelf
attribute [local go_sem] Oper.semAt_some
theorem unl_ok (w:World)(R:Nat)(i0:Int):Calls Tryz.prog 132 #[.pointer (some ⟨R,0,none⟩),.int .i64 i0] w λe w'=>e=.returned (.func (.func 162) #[] #[.pointer (some ⟨w.heap.size,0,none⟩),.pointer (some ⟨w.heap.size+1,0,none⟩)])/\w'=(w.alloc (.cells #[.pointer (some ⟨R,0,none⟩)] 33)).alloc (.cells #[.int .i64 i0] 3):=by
 have hmf:∀ (fn:Fn) (first cap:Array Value) (w:World),(Instr.makeFunc fn first cap).run Tryz.prog w=.ok (.func fn first cap) w:=λ_ _ _ _=>rfl
 go_enter Tryz.func132,Tryz.ntmps132
 go_wp2
 go_ret
 exact⟨rfl,rfl⟩
def atQ (s0:Rv)(i0:Int)(n0 j:Nat):TQ:=(relN s0.key s0.ix i0 s0 j,n0+64*j)
def inQ (s0:Rv)(i0:Int)(n0 j t:Nat)(key:List UInt8)(L:List (List UInt8)):TQ:=
 ((cellP (relN s0.key s0.ix i0 s0 j).1 (i0+j) (goF key ((relN s0.key s0.ix i0 s0 j).1.last,(relN s0.key s0.ix i0 s0 j).2) (L.take t)),(goF key ((relN s0.key s0.ix i0 s0 j).1.last,(relN s0.key s0.ix i0 s0 j).2) (L.take t)).2),n0+64*(j+1))
theorem inQ_start (s0:Rv)(i0:Int)(n0 j:Nat)(key:List UInt8)(L:List (List UInt8)):inQ s0 i0 n0 j 0 key L=(({ (relN s0.key s0.ix i0 s0 j).1 with b:=takeV (relN s0.key s0.ix i0 s0 j).1.b ((relN s0.key s0.ix i0 s0 j).1.ep,i0+j) },(relN s0.key s0.ix i0 s0 j).2),n0+64*(j+1)):=rfl
theorem inQ_end {s0:Rv}(hok:s0.ok)(i0:Int)(n0 j:Nat):inQ s0 i0 n0 j (btakeL (relN s0.key s0.ix i0 s0 j).1.b ((relN s0.key s0.ix i0 s0 j).1.ep,i0+j)).length (backP s0.key (s0.ix-(i0+j))).1 (btakeL (relN s0.key s0.ix i0 s0 j).1.b ((relN s0.key s0.ix i0 s0 j).1.ep,i0+j))=atQ s0 i0 n0 (j+1):=by
 unfold inQ atQ
 rw[List.take_length]
 have h:=cell_eq (relN_ok hok s0.key s0.ix i0 j) (i0+j) (backP s0.key (s0.ix-(i0+j))).1 (relN s0.key s0.ix i0 s0 j).2
 rw[<-h]
 rfl
theorem inQ_next (s0:Rv)(i0:Int)(n0 j t:Nat)(key:List UInt8)(L:List (List UInt8)){x:List UInt8}(hx:L[t]?=some x):nxQ (inQ s0 i0 n0 j t key L) (getF x) key=inQ s0 i0 n0 j (t+1) key L:=by
 have e:L.take (t+1)=L.take t++[x]:=by rw[List.take_add_one,hx];rfl
 unfold inQ
 rw[nxQ_cell,e,goF_snoc]
theorem goF_len (k:List UInt8):∀ (L:List (List UInt8)) (p:Int×List Fr),(goF k p L).2.length<=p.2.length+L.length
 | [],p=>by simp[goF]
 | x :: L, p => by
   rw [goF_cons]
   have h := goF_len k L (goS k p x)
   have h2 : (goS k p x).2.length ≤ p.2.length + 1 := by
     unfold goS
     split
     · simp
     · omega
   rw [List.length_cons]
   omega
theorem inQ_len (s0:Rv)(i0:Int)(n0 j t:Nat)(key:List UInt8)(L:List (List UInt8))(hj:j<=257)(ht:t<=64):(inQ s0 i0 n0 j t key L).1.2.length<=900:=by
 have h:=goF_len key (L.take t) ((relN s0.key s0.ix i0 s0 j).1.last,(relN s0.key s0.ix i0 s0 j).2)
 have h2:=(relN_same s0.key s0.ix i0 s0 j).2.2.2.2.2.2.2
 have h3:=List.length_take_le t L
 unfold inQ
 dsimp only at h ⊢
 omega
theorem btake_le {s:Bs}(h:s.ok){k:Key}{x:List UInt8}(hx:x∈btakeL s k):x.length<=96:=by
 obtain⟨y,hy,rfl⟩:=List.mem_map.1 hx
 exact(argB_iff.1 (h.arg y (List.mem_filter.1 hy).1)).2.2.2.2
theorem unl_in (mm l Bl:Nat)(w:World)(R g m:Nat)(v0:Value)(o b0 b1 b2:Nat)(s0:Rv)(n0:Nat)(hok:s0.ok)(i0:Int)(cnt:Nat)(hc1:1<=cnt)(hcn:s0.ix-i0+1=(cnt:Int))(hi0:0<=i0)(hep:0<=s0.ep)(hn0:n0<=80000000)(hhi:∀ k,POwn R g m v0 k->3<=k)(hw3:3<=w.heap.size)(hBl:w.heap.size<=Bl)(Bk Bx:World->Prop)(kB:∀ W W',Bk W->KeepsFrom Bl W W'->Bk W')(hY:∀ (q:TS) (x:Ho) W,Bk W->(TZ w R g m v0 o b0 b1 b2 i0 q W/\HoAt W x/\q.1.1.2.length<=900)->YieldAt Fence.wide (mm-1) Tryz.prog l (hoV x) W λe W'=>(e=.returned (.bool true)/\Bk W'/\TZ w R g m v0 o b0 b1 b2 i0 (nxQ q.1 x.F x.key,q.2) W')\/(e=.returned (.bool false)/\Bx W'))(W:World)(hW:Bk W)(hI:TI w R g m v0 o b0 b1 b2 i0 ((s0,[]),n0) W):
  CallsIn Fence.wide mm Tryz.prog 162 #[.func (.yield l) #[] #[],.pointer (some ⟨b1,0,none⟩),.pointer (some ⟨b2,0,none⟩)] W λe W'=>(∃ v,e=.returned v)/\((∃ q:TS,q.1=atQ s0 i0 n0 cnt/\Bk W'/\TZ w R g m v0 o b0 b1 b2 i0 q W')\/Bx W'):=by
 have hfm:Tryz.prog.follows .mixedOrders=true:=by kernel_rfl
 obtain⟨hx0,hx1,hk16⟩:0<=s0.ix/\s0.ix<=256/\s0.key.length=16:=by
  have h1:=okB_keys hok.cfg
  rcases hok.ep with h|⟨_,_,_,_,h5,h6,h7⟩
  ·omega
  ·exact⟨h5,by omega,h7⟩
 obtain⟨v,ka,kc,ss,vo,h1,h2,h3,h4,h5,h6,h7,h8,h9,h10,h11,h12⟩:=id hI
 have hbd:Below W.heap.size W W.drew:=(Below.refl _ _).drew
 have KK:=tkeys_ok W.drew ka kc s0.key hk16 (cnt-1) (by omega) (h10.below hbd) (h1.key.below hbd) cnt (by omega)
 have hS0:W.drew.cell? ⟨b1,0,none⟩=some (.pointer (some ⟨R,0,none⟩))/\W.drew.cell? ⟨b2,0,none⟩=some (.int .i64 i0)/\W.drew.cell? ⟨R,14,none⟩=some (.slice ka 16 kc)/\W.drew.cell? ⟨R,13,none⟩=some (.int .i64 s0.ix):=⟨h8.cell,h9.cell,by rw[<-hk16];exact h1.at'.cell 14 rfl,h1.at'.cell 13 rfl⟩
 have HS:Hid (∀ W',Below W.drew.heap.size W.drew W'->W'.cell? ⟨b1,0,none⟩=some (.pointer (some ⟨R,0,none⟩))/\W'.cell? ⟨b2,0,none⟩=some (.int .i64 i0)/\W'.cell? ⟨R,14,none⟩=some (.slice ka 16 kc)/\W'.cell? ⟨R,13,none⟩=some (.int .i64 s0.ix)):=λW' hb=>by
  have q1:=(h1.below hbd).below hb
  exact⟨(hb.cell (p:=⟨b1,0,none⟩) h8.lt).trans h8.cell,(hb.cell (p:=⟨b2,0,none⟩) h9.lt).trans h9.cell,by rw[<-hk16];exact q1.at'.cell 14 rfl,q1.at'.cell 13 rfl⟩
 have e1:IntKind.i64.wrap (s0.ix-i0)=s0.ix-i0:=by rw[IntKind.wrap_i64];omega
 have e2:IntKind.i64.wrap (s0.ix-i0+1)=(cnt:Int):=by rw[IntKind.wrap_i64];omega
 have e3:IntKind.i64.wrap (cnt:Int)=(cnt:Int):=by rw[IntKind.wrap_i64];omega
 have HY:Hid (∀ (q:TS) (x:Ho) W,Bk W->(TZ w R g m v0 o b0 b1 b2 i0 q W/\HoAt W x/\q.1.1.2.length<=900)->YieldAt Fence.wide (mm-1) Tryz.prog l (hoV x) W λe W'=>(e=.returned (.bool true)/\Bk W'/\TZ w R g m v0 o b0 b1 b2 i0 (nxQ q.1 x.F x.key,q.2) W')\/(e=.returned (.bool false)/\Bx W')):=hY
 have HI:Hid (TI w R g m v0 o b0 b1 b2 i0 ((s0,[]),n0) W):=hI
 have HKB:Hid (∀ W W',Bk W->KeepsFrom Bl W W'->Bk W'):=kB
 have HHI:Hid (∀ k,POwn R g m v0 k->3<=k):=hhi
 have HOK:Hid s0.ok:=hok
 have HW:Hid (Bk W):=hW
 clear hY hI kB hhi hok hW h1 h2 h3 h4 h5 h6 h7 h8 h9 h10 h11 h12 hbd
 refine callsIn_of_wp Tryz.func162 rfl trivial ?_ rfl
 simp only[Tryz.ntmps162,List.size_toArray,List.length_cons,List.length_nil,Nat.reduceAdd,Nat.reduceSub,Array.replicate_succ,Array.replicate_zero,List.push_toArray,List.append_toArray,List.nil_append,List.cons_append]
 gi_wp2
 refine region_wideN (S:=λV=>V.cell? ⟨b1,0,none⟩=some (.pointer (some ⟨R,0,none⟩))/\V.cell? ⟨b2,0,none⟩=some (.int .i64 i0)/\V.cell? ⟨R,14,none⟩=some (.slice ka 16 kc)/\V.cell? ⟨R,13,none⟩=some (.int .i64 s0.ix)) hfm (by kernel_rfl) ?_
 have hS:=hS0
 refine tk 0 hS ?_
 refine tk 1 hS ?_
 refine tk 2 hS ?_
 refine tk 3 hS ?_
 refine tk 4 hS ?_
 refine tk 5 hS ?_
 refine tk 6 hS ?_
 refine tk 7 hS ?_
 refine tk 8 hS ?_
 refine tk 9 hS ?_
 refine tk 10 hS ?_
 refine tk 11 hS ?_
 refine tk 12 hS ?_
 refine tk 15 hS ?_
 refine any_one 13 rfl (by kernel_rfl) (by rfl) (λK hK=>?_)
 clear hS
 go_simp
 refine KK.mono ?_
 rintro ev w1 ⟨g9,rfl,hFu,hg9,hb1⟩
 have HB1:Hid (Below W.drew.heap.size W.drew w1):=hb1
 clear hb1 KK
 refine hK.out _ _ (HS.out _ HB1.out) (λhS=>?_)
 clear hK
 (try simp only[Act.put,sT])
 refine tk 14 hS ?_
 refine wpAnyH_done (by kernel_rfl) ?_ _
 refine NoOut.normal ?_
 clear hS hS0 HS e1 e2 e3
 have HF1:Hid (Full w1 g9 (cnt-1) s0.key):=hFu
 have HI1:Hid (TI w R g m v0 o b0 b1 b2 i0 ((s0,[]),n0) w1):=HI.out.below ((Below.refl _ _).drew.trans HB1.out)
 have HW1:Hid (Bk w1):=HKB.out _ _ HW.out (Below.keepsFrom ((Below.refl _ _).drew.trans HB1.out) _)
 clear hFu HI HW HB1
 gi_wp2
 gi_loopw [25] (λiv wr=>∃ (j:Nat),j<=cnt/\iv=.int .i64 (j:Int)/\Bk wr/\TI w R g m v0 o b0 b1 b2 i0 (atQ s0 i0 n0 j) wr/\Full wr g9 (cnt-1) s0.key) (λiv _=>(cnt-intOf iv).toNat)
 case atStart=>exact⟨0,by omega,rfl,HW1.out,HI1.out,HF1.out⟩
 case round=>
  obtain⟨j,hj,rfl,hBk,hTI,hFu⟩:=hrel
  clear HW1 HI1 HF1
  by_cases hjc:j<cnt
  ·obtain⟨kl,hkc,hks⟩:=hFu.at (j:=j) (by omega)
   have hbd:Below wr.heap.size wr wr.drew:=(Below.refl _ _).drew
   obtain⟨v,ka',kc',ss,vo,h1,h2,h3,h4,h5,h6,h7,h8,h9,h10,h11,h12⟩:=hTI.below hbd
   obtain⟨e1,e2,e3,e4,e5,e6,e7,e8⟩:=relN_same s0.key s0.ix i0 s0 j
   have hsok:=relN_ok HOK.out s0.key s0.ix i0 j
   have hkey:(backP s0.key (s0.ix-(i0+j))).1=backL (cnt-1-j) s0.key:=by
    unfold backP
    rw[if_pos ⟨hk16,by omega,by omega⟩,show (s0.ix-(i0+(j:Int))).toNat=cnt-1-j by omega]
   rw[<-hkey] at hks
   obtain⟨key,hky⟩:∃ key,key=(backP s0.key (s0.ix-(i0+j))).1:=⟨_,rfl⟩
   have hkl:key.length=16:=by rw[hky,hkey];exact backL_len _ _ hk16
   rw[<-hky] at hks
   obtain⟨L,hL⟩:∃ L,L=btakeL (relN s0.key s0.ix i0 s0 j).1.b ((relN s0.key s0.ix i0 s0 j).1.ep,i0+j):=⟨_,rfl⟩
   have HEND:Hid (inQ s0 i0 n0 j L.length key L=atQ s0 i0 n0 (j+1)):=by show _=_;rw[hL,hky];exact inQ_end HOK.out i0 n0 j
   have HLL:Hid (∀ x∈L,getE x=0/\x.length<=96):=λx hx=>by rw[hL] at hx;exact⟨(hsok.cell _ x hx).1,btake_le hsok.buf hx⟩
   have HL64:Hid (L.length<=64):=by show L.length<=64;rw[hL];exact btake_len hsok.buf _
   have h13:∀ k,POwn R g m v k->3<=k:=λk hk=>by
    rcases hk with rfl|rfl|rfl|hk
    ·exact HHI.out _ (.inl rfl)
    ·exact HHI.out _ (.inr (.inl rfl))
    ·exact HHI.out _ (.inr (.inr (.inl rfl)))
    ·rcases h3 k hk with h|h
     ·exact HHI.out _ (.inr (.inr (.inr h)))
     ·omega
   have hep1:s0.ep<=65535:=by rcases HOK.out.ep with h|h<;>omega
   have KT:=take_ok wr.drew g m v _ ss _ h1.buf (by show n0+64*j<=90000000;omega) ((relN s0.key s0.ix i0 s0 j).1.ep,i0+j) ⟨inI_wf (by rw[e3];omega) (by rw[e3];omega),inI_wf (by show _<=i0+(j:Int);omega) (by show i0+(j:Int)<=_;omega)⟩
   rw[e3] at hL
   have KT:Calls Tryz.prog 164 #[.pointer (some ⟨g,0,none⟩),.int .i64 s0.ep,.int .i64 (i0+(j:Int))] wr.drew λe w'=>∃ vo,e=.returned vo/\PLeft wr.drew g m v (takeV (relN s0.key s0.ix i0 s0 j).1.b (s0.ep,i0+j)) (n0+64*j+64) w'/\BTold w' wr.drew.heap.size vo L:=by
    rw[hL]
    rw[e3] at KT
    exact KT
   have hS0:(λV=>V.cell? ⟨b1,0,none⟩=some (.pointer (some ⟨R,0,none⟩))/\V.cell? ⟨b2,0,none⟩=some (.int .i64 i0)/\V.cell? ⟨R,16,none⟩=some (.pointer (some ⟨g,0,none⟩))/\V.cell? ⟨R,11,none⟩=some (.int .i64 s0.ep)) wr.drew:=⟨h8.cell,h9.cell,h1.at'.c16,by have:=h1.at'.cell 11 rfl;rw[<-e3];exact this⟩
   have TOOK:Hid (∀ W' ,PLeft wr.drew g m v (takeV (relN s0.key s0.ix i0 s0 j).1.b (s0.ep,i0+j)) (n0+64*j+64) W'->TI w R g m v0 o b0 b1 b2 i0 (inQ s0 i0 n0 j 0 key L) W'/\Bk W'/\Full W' g9 (cnt-1) s0.key/\Sees W' kl.1 kl.2 key):=λW' hl=>by
    have q1:=TI.took h1 h2 h3 h4 h5 h6 h7 h8 h9 h10 h11 h12 h13 hl hBl
    refine⟨?_,HKB.out _ _ hBk (KeepsFrom.trans (Below.keepsFrom hbd _) q1.2),(Full.kp g9 (cnt-1) s0.key).took h1 hl (Full.kp g9 (cnt-1) s0.key |>.below hFu hbd),?_⟩
    ·rw[inQ_start,e3,show n0+64*(j+1)=n0+64*j+64 by omega]
     exact q1.1
    ·obtain⟨_,_,_,_,_,g2,_⟩:=PLeft.go h1 hl
     exact(hks.below hbd).apart g2 λk hk=>h1.plain hk
   have SBX:Hid (∀ W',TI w R g m v0 o b0 b1 b2 i0 (inQ s0 i0 n0 j 0 key L) W'->(λV=>V.cell? ⟨b1,0,none⟩=some (.pointer (some ⟨R,0,none⟩))/\V.cell? ⟨b2,0,none⟩=some (.int .i64 i0)/\V.cell? ⟨R,16,none⟩=some (.pointer (some ⟨g,0,none⟩))/\V.cell? ⟨R,11,none⟩=some (.int .i64 s0.ep)) W'):=λW' hT=>by
    obtain⟨v',kb,kd,ss',vo',q1,_,_,_,_,q6,q7,q8,q9,_⟩:=hT
    refine⟨q8.cell,q9.cell,q1.at'.c16,?_⟩
    have:=q1.at'.cell 11 rfl
    rw[<-e3];exact this
   have w1j:IntKind.i64.wrap (i0+(j:Int))=i0+(j:Int):=by rw[IntKind.wrap_i64];omega
   have hc257:cnt<=257:=by omega
   have HKS:Hid (Sees wr kl.1 kl.2 key/\key.length=16):=⟨hks,hkl⟩
   clear h1 h2 h3 h4 h5 h6 h7 h8 h9 h10 h11 h12 h13 e1 e2 e4 e5 e6 e7 e8 hsok hkey hky hL hbd hks hkl hTI hFu hBk
   gi_wp2
   clear hkc
   refine region_wideN (S:=λV=>V.cell? ⟨b1,0,none⟩=some (.pointer (some ⟨R,0,none⟩))/\V.cell? ⟨b2,0,none⟩=some (.int .i64 i0)/\V.cell? ⟨R,16,none⟩=some (.pointer (some ⟨g,0,none⟩))/\V.cell? ⟨R,11,none⟩=some (.int .i64 s0.ep)) hfm (by kernel_rfl) ?_
   have hS:=hS0
   refine tk 0 hS ?_
   refine tk 1 hS ?_
   refine tk 2 hS ?_
   refine tk 3 hS ?_
   refine tk 4 hS ?_
   refine tk 5 hS ?_
   refine tk 6 hS ?_
   refine tk 7 hS ?_
   refine tk 8 hS ?_
   refine tk 9 hS ?_
   refine tk 10 hS ?_
   refine tk 11 hS ?_
   refine tk 14 hS ?_
   refine any_one 12 rfl (by kernel_rfl) (by rfl) (λK hK=>?_)
   clear hS
   go_simp
   refine KT.mono ?_
   rintro ev w3 ⟨vt,rfl,hPL,hTo⟩
   obtain⟨hT3,hB3,hF3,hK3⟩:=TOOK.out _ hPL
   obtain⟨os,hro,hso,hom,hown⟩:=hTo
   obtain⟨va,vc,rfl,-⟩:=hro.shape
   have HT3:Hid (TI w R g m v0 o b0 b1 b2 i0 (inQ s0 i0 n0 j 0 key L) w3/\Bk w3/\Full w3 g9 (cnt-1) s0.key/\Sees w3 kl.1 kl.2 key):=⟨hT3,hB3,hF3,hK3⟩
   have HRO:Hid (Row E22 w3 (.slice va os.length vc) os/\SeenB w3 os):=⟨hro,hso⟩
   have HOM:Hid (os.map Prod.fst=L):=hom
   clear hPL hown hro hso hom hT3 hB3 hF3 hK3 KT TOOK
   refine hK.out _ _ (SBX.out _ HT3.out.1) (λhS=>?_)
   clear hK
   (try simp only[Act.put,sT])
   refine tk 13 hS ?_
   refine wpAnyH_done (by kernel_rfl) ?_ _
   refine NoOut.normal ?_
   clear hS hS0 SBX w1j
   have HKL:Hid (key.length=16):=HKS.out.2
   have hol:os.length=L.length:=by rw[<-HOM.out,List.length_map]
   have hol64:os.length<=64:=by rw[hol];exact HL64.out
   have HOL:Hid (os.length=L.length):=hol
   clear hol
   clear HKS
   gi_wp2
   gi_loopw [44] (λtv wr=>∃ (t:Nat),t<=os.length/\tv=.int .i64 (t:Int)/\Bk wr/\TI w R g m v0 o b0 b1 b2 i0 (inQ s0 i0 n0 j t key L) wr/\Full wr g9 (cnt-1) s0.key/\(Row E22 wr (.slice va os.length vc) os/\SeenB wr os)/\Sees wr kl.1 kl.2 key) (λtv _=>(os.length-intOf tv).toNat)
   case atStart=>exact⟨0,by omega,rfl,HT3.out.2.1,HT3.out.1,HT3.out.2.2.1,HRO.out,HT3.out.2.2.2⟩
   case round=>
    obtain⟨t,ht,rfl,hBk,hTI,hFu,⟨hro,hso⟩,hks⟩:=hrel
    clear HT3 HRO
    by_cases htc:t<os.length
    ·obtain⟨x,hx⟩:∃ x,os[t]?=some x:=⟨os[t]'htc,List.getElem?_eq_getElem htc⟩
     obtain⟨-,qq,rfl,hcx⟩:=hro.get hx
     have hc1:=hcx 0 _ rfl
     rw[show t*E22.n+0=t from by show t*1+0=t;omega] at hc1
     have hxm:x∈os:=List.mem_of_getElem? hx
     have hxL:L[t]?=some x.1:=by rw[<-HOM.out,List.getElem?_map,hx];rfl
     have hxe:=HLL.out x.1 (List.mem_of_getElem? hxL)
     have KG:=get_any wr x.2.1 x.2.2 x.1 (hso x hxm) (by omega)
     have HNX:Hid (nxQ (inQ s0 i0 n0 j t key L) (getF x.1) key=inQ s0 i0 n0 j (t+1) key L):=inQ_next s0 i0 n0 j t key L hxL
     obtain⟨xb,xa,xc⟩:=x
     dsimp only at hc1 KG HNX hxe
     obtain⟨F,hF⟩:∃ F,F=getF xb:=⟨_,rfl⟩
     rw[<-hF] at HNX KG
     have hFn:F.n<18446744073709551616:=by rw[hF];exact get_n xb
     have HALL:Hid (Bk wr/\TI w R g m v0 o b0 b1 b2 i0 (inQ s0 i0 n0 j t key L) wr/\Full wr g9 (cnt-1) s0.key/\(Row E22 wr (.slice (some ⟨qq,0,none⟩) os.length vc) os/\SeenB wr os)/\Sees wr kl.1 kl.2 key):=⟨hBk,hTI,hFu,⟨hro,hso⟩,hks⟩
     clear hBk hTI hFu hro hso hks hcx hxm hxL hxe hx hF
     gi_wp2
     refine⟨trivial,(λh=>by cases h),(callsIn_wide.2 KG).mono ?_⟩
     rintro ev w4 ⟨A,rfl,hSn,hb4⟩
     obtain⟨W5,hst,hFr,hb5⟩:=fr_stored w4 F A
     have hb25:Below wr.heap.size wr W5:=hb4.trans (hb5.mono hb4.size)
     have HST:Hid ((Instr.storeAt 41 (.pointer (some ⟨w4.heap.size,0,none⟩)) (.agg (frC F A))).run Tryz.prog (w4.alloc (.cells #[.int .i64 0,.int .i64 0,.int .i64 0,.int .i64 0,.int .i64 0,.int .i64 0,.int .u64 0,.int .i64 0,.int .i64 0,.int .i64 0,.slice none 0 0,.slice none 0 0,.slice none 0 0] 41))=.ok () W5):=hst
     have HLD:Hid ((Instr.loadAt 41 (.pointer (some ⟨w4.heap.size,0,none⟩))).run Tryz.prog W5=.ok (.agg (frC F A)) W5):=hFr.loads
     obtain⟨fn,tmps,assign,body,hy,hR⟩:=HY.out (inQ s0 i0 n0 j t key L,λV=>Full V g9 (cnt-1) s0.key/\(Row E22 V (.slice (some ⟨qq,0,none⟩) os.length vc) os/\SeenB V os)/\Sees V kl.1 kl.2 key) ⟨F,A,key,kl.1,kl.2⟩ W5 (HKB.out _ _ HALL.out.1 (Below.keepsFrom hb25 _))
      ⟨⟨HALL.out.2.1.below hb25,⟨(Full.kp g9 (cnt-1) s0.key).below HALL.out.2.2.1 hb25,(BTold.kp (.slice (some ⟨qq,0,none⟩) os.length vc) os).below HALL.out.2.2.2.1 hb25,HALL.out.2.2.2.2.below hb25⟩,(Full.kp g9 (cnt-1) s0.key).and ((BTold.kp (.slice (some ⟨qq,0,none⟩) os.length vc) os).and λW W' FF hz ha hp _=>hz.apart ha hp)⟩,⟨hSn.below hb5,hFn,HALL.out.2.2.2.2.below hb25,HKL.out⟩,inQ_len s0 i0 n0 j t key L (by omega) (by omega)⟩
     have HR:Hid (RoundIn Fence.wide (mm-1) Tryz.prog l fn tmps assign body W5 λe W'=>(e=.returned (.bool true)/\Bk W'/\TZ w R g m v0 o b0 b1 b2 i0 (nxQ (inQ s0 i0 n0 j t key L) F key,λV=>Full V g9 (cnt-1) s0.key/\(Row E22 V (.slice (some ⟨qq,0,none⟩) os.length vc) os/\SeenB V os)/\Sees V kl.1 kl.2 key) W')\/(e=.returned (.bool false)/\Bx W')):=hR
     dsimp only[hoV] at hy
     clear hR hst hFr hb5 hb4 hb25 hSn KG HALL hc1
     gi_wp2_with (first|(refine wpListIn_store_run rfl 41 _ _ rfl _ _ rfl rfl HST.out ?_)|(refine wpListIn_load_run rfl 41 _ rfl _ _ rfl HLD.out ?_)|fail)
     refine⟨(λh=>by cases h),HR.out.mono ?_⟩
     clear hy HR HST HLD
     rintro ev W6 (⟨rfl,hB6,hT6⟩|⟨rfl,hX6⟩)
     ·obtain⟨q1,⟨q2,q3,q4⟩,_⟩:=hT6
      dsimp only at q1 q2 q3 q4
      rw[HNX.out] at q1
      have HQ:Hid (Bk W6/\TI w R g m v0 o b0 b1 b2 i0 (inQ s0 i0 n0 j (t+1) key L) W6/\Full W6 g9 (cnt-1) s0.key/\(Row E22 W6 (.slice (some ⟨qq,0,none⟩) os.length vc) os/\SeenB W6 os)/\Sees W6 kl.1 kl.2 key):=⟨hB6,q1,q2,q3,q4⟩
      clear q1 q2 q3 q4 hB6 HNX
      gi_wp2
      go_roundw
      case rel=>exact⟨t+1,by omega,by go_num,HQ.out⟩
      case measure=>simp[intOf];omega
     ·gi_wp2
      (try simp only[Exit.inBlock,Exit.then])
      refine bodyPost_ret (results_none rfl _ _ _) rfl ?_
      exact⟨⟨_,rfl⟩,.inr hX6⟩
    ·have hte:t=L.length:=by have:=HOL.out;omega
     have HQ:Hid (Bk wr/\TI w R g m v0 o b0 b1 b2 i0 (atQ s0 i0 n0 (j+1)) wr/\Full wr g9 (cnt-1) s0.key):=by
      rw[hte,HEND.out] at hTI
      exact⟨hBk,hTI,hFu⟩
     have hdt:decide ((t:Int)<(os.length:Int))=false:=decide_eq_false (by omega)
     clear hBk hTI hFu hro hso hks hte
     gi_wp2
     go_roundw
     case rel=>exact⟨j+1,by omega,by go_num,HQ.out⟩
     case measure=>simp[intOf];omega
  ·have hje:j=cnt:=by omega
   have HQ:Hid (Bk wr/\TI w R g m v0 o b0 b1 b2 i0 (atQ s0 i0 n0 cnt) wr):=by rw[hje] at hTI;exact⟨hBk,hTI⟩
   have hdj:decide ((j:Int)<(cnt:Int))=false:=decide_eq_false (by omega)
   clear hBk hTI hFu hje
   gi_wp2
   go_end0
   exact⟨⟨_,rfl⟩,.inl ⟨(atQ s0 i0 n0 cnt,λ_=>True),rfl,HQ.out.1,HQ.out.2,trivial,λ_ _ _ _ _ _ _=>trivial⟩⟩
open Go.ChangeShapes Go.WideShapes Go.ChangeAt Go.RowKit
theorem TZ.rel {w:World}{R g m:Nat}{v0:Value}{o b0 b1 b2:Nat}{i0:Int}{s:Rv}{out:List Fr}{n:Nat}{Z:World->Prop}{V:World}(h:TZ w R g m v0 o b0 b1 b2 i0 (((s,out),n),Z) V)(hhi:∀ k,POwn R g m v0 k->3<=k)(hw3:3<=w.heap.size){F:Fr}{A:At}(hF:Seen V F A)(hl:out.length<=900)(B:Nat):
  ∃ vo v' V1 V3, V1 = V.setCell ⟨R, 15, none⟩ (.int .i64 F.r) ∧ V1.cell? ⟨o, 0, none⟩ = some vo ∧ (Builtin.append_ #[55, 55] 55 #[vo, .slice (some ⟨V1.heap.size, 0, none⟩) 1 1]).run Tryz.prog (V1.alloc (.cells (frC F A) 41)) = .ok v' V3 ∧ V3.cell? ⟨o, 0, none⟩ = some vo ∧ V3.frozen? ⟨o, 0, none⟩ = false ∧
    TZ w R g m v0 o b0 b1 b2 i0 ((({ s with last := F.r }, out ++ [F]), n), Z) (V3.setCell ⟨o, 0, none⟩ v') ∧ KeepsFrom B V (V3.setCell ⟨o, 0, none⟩ v') ∧ ∃ a l c, v' = Value.slice a l c := by
 obtain⟨⟨v,ka,kc,ss,vo,h1,h2,h3,h4,h5,h6,h7,h8,h9,h10,h11,h12⟩,hz,hk⟩:=h
 dsimp only at h1 h4 hz hk
 have h13:∀ k,POwn R g m v k->3<=k:=λk hk=>by
  rcases hk with rfl|rfl|rfl|hk
  ·exact hhi _ (.inl rfl)
  ·exact hhi _ (.inr (.inl rfl))
  ·exact hhi _ (.inr (.inr (.inl rfl)))
  ·rcases h3 k hk with h|h
   ·exact hhi _ (.inr (.inr (.inr h)))
   ·omega
 have hbx:∀ {V:World} {b t x},PAll V R s n g m v ka kc ss->Boxed V b t x->t≠77->t≠122->t≠201->¬ POwn R g m v b:=λhP hb a1 a2 a3=>hP.notin hb a1 a2 a3
 obtain⟨V1,hV1⟩:∃ V1,V1=V.setCell ⟨R,15,none⟩ (.int .i64 F.r):=⟨_,rfl⟩
 obtain⟨p1,a1⟩:=h1.set 15 (.int .i64 F.r) (t:={ s with last:=F.r }) (kb:=ka) (kd:=kc) rfl rfl h1.key
 rw[<-hV1] at p1 a1
 have pl:∀ k,POwn R g m v k->Plain V k:=λk hk=>h1.plain hk
 have f1:=h4.apart a1 (λk hk=>Frs.notin h1 h4 hk) pl
 have x6:=boxed_apart h6 a1 (hbx h1 h6 (by decide) (by decide) (by decide))
 have x7:=boxed_apart h7 a1 (hbx h1 h7 (by decide) (by decide) (by decide))
 have x8:=boxed_apart h8 a1 (hbx h1 h8 (by decide) (by decide) (by decide))
 have x9:=boxed_apart h9 a1 (hbx h1 h9 (by decide) (by decide) (by decide))
 have x10:=h10.apart a1 h13
 have z1:=hk V V1 _ hz a1 pl λk cur fr hkk e=>h1.notin e (by decide) (by decide) (by decide) hkk
 have k1:KeepsFrom B V V1:=by rw[hV1];exact(KeepsOthers.setCell _ _ _).from B
 obtain⟨V2,hV2⟩:∃ V2,V2=V1.alloc (.cells (frC F A) 41):=⟨_,rfl⟩
 have hb2:Below V1.heap.size V1 V2:=by rw[hV2];exact(Below.refl _ _).alloc (Nat.le_refl _) _
 have hfr:FrAt V2 V1.heap.size F A:=by rw[hV2];exact FrAt.new V1 F A
 obtain⟨v',V3,hrun,f3,a3,o3⟩:=(f1.below hb2).push hl F A ((hF.apart a1 pl).below hb2) V1.heap.size 0 1 (λj u hu=>by rw[Nat.zero_add];exact hfr.cell j hu)
 have p2:=p1.below hb2
 have f2:=f1.below hb2
 have pl2:∀ k,vo.ownBlock=some k->Plain V2 k:=λk hk=>f2.plain hk
 have nb:∀ {b t x},Boxed V2 b t x->t≠41->¬ vo.ownBlock=some b:=λhb ht e=>Frs.notbox f2 e ht hb
 have y6:=boxed_apart (Boxed.below x6 hb2) a3 (nb (Boxed.below x6 hb2) (by decide))
 have y7:=boxed_apart (Boxed.below x7 hb2) a3 (nb (Boxed.below x7 hb2) (by decide))
 have y8:=boxed_apart (Boxed.below x8 hb2) a3 (nb (Boxed.below x8 hb2) (by decide))
 have y9:=boxed_apart (Boxed.below x9 hb2) a3 (nb (Boxed.below x9 hb2) (by decide))
 have hown2:∀ k,vo.ownBlock=some k->w.heap.size<=k:=h5
 have p3:=p2.apart a3 (λk hk ho=>Frs.notin p2 f2 hk ho) pl2
 have z3:=hk V2 V3 _ (hk.below z1 hb2) a3 pl2 λk cur fr hkk e=>by
  obtain⟨os,r1,_,_⟩:=f2
  obtain⟨cur',e',_⟩:=r1.isRow hkk
  rw[e'] at e
  cases e
 have k3:KeepsFrom B V2 V3:=a3.keepsFrom λk x hkk _ hx=>by
  obtain⟨os,r1,_,_⟩:=f2
  obtain⟨cur',e',_⟩:=r1.isRow hkk
  rw[e'] at hx;cases hx;rfl
 have hs2:w.heap.size<=V2.heap.size:=Nat.le_trans h2.size (Nat.le_trans a1.size hb2.size)
 have hA3:Apart (POwn R g m v0) w V3:=by
  refine((h2.trans a1 (λk hk=>?_)).trans (Apart.of_below (F:=λ_=>False) hb2) (λ_ h=>h.elim)).trans a3 λk hk=>.inr (h5 k hk)
  rcases hk with rfl|rfl|rfl|hk
  ·exact .inl (.inl rfl)
  ·exact .inl (.inr (.inl rfl))
  ·exact .inl (.inr (.inr (.inl rfl)))
  ·exact(h3 k hk).imp (λh=>.inr (.inr (.inr h))) id
 have x13:=(x10.below hb2).apart a3 λk hk=>by have:=h5 k hk;omega
 have a4:Apart (λk=>k=o) V3 (V3.setCell ⟨o,0,none⟩ v'):=(Apart.refl (λk=>k=o) V3).setCell (b:=o) (.inl rfl) 0 v'
 have plo:∀ k,k=o->Plain V3 k:=λk e=>e▸NoByte.plain (cur:=#[vo]) (λu hu kk yy=>by
  simp only[List.mem_cons,List.not_mem_nil,or_false] at hu
  obtain⟨a,c,e⟩:=h4.shape
  rw[hu,e];intro ee;cases ee) y6
 have hob:∀ {b t x},Boxed V3 b t x->t≠55->b≠o:=λhb ht e=>by
  subst e
  have q1:=hb
  have q2:=y6
  unfold Boxed at q1 q2
  rw[q1] at q2
  simp only[Option.some.injEq,Obj.cells.injEq] at q2
  exact ht q2.2.1
 refine⟨vo,v',V1,V3,hV1,x6.cell,by rw[<-hV2];exact hrun,y6.cell,y6.frozen,⟨⟨v,ka,kc,ss,v',p3.apart a4 (λk e ho=>?_) plo,hA3.trans a4 (λk e=>.inr (by omega)),h3,f3.apart a4 (λk hk e=>?_) plo,λk hk=>?_,Boxed.set v' y6,boxed_apart y7 a4 (hob y7 (by decide)),boxed_apart y8 a4 (hob y8 (by decide)),boxed_apart y9 a4 (hob y9 (by decide)),x13.apart a4 (λk e=>by omega),h11,h12⟩,hk V3 _ _ z3 a4 plo (λk cur fr e ek=>?_),hk⟩,?_,?_⟩
 ·exact p3.notin (show V3.heap[k]?=some (.cells #[vo] 55 (0,0)) from e▸y6) (by decide) (by decide) (by decide) ho
 ·exact Frs.notbox f3 hk (by decide) (e▸y6)
 ·rcases o3 k hk with h|h
  ·exact h5 k h
  ·omega
 ·rw[e] at ek
  have q2:=y6
  unfold Boxed at q2
  rw[ek] at q2
  simp only[Option.some.injEq,Obj.cells.injEq] at q2
  exact absurd q2.2.1 (by decide)
 ·exact((k1.trans (Below.keepsFrom hb2 B)).trans k3).trans ((KeepsOthers.setCell _ _ _).from B)
 ·obtain⟨a,c,e⟩:=f3.shape
  exact⟨a,_,c,e⟩
theorem TZ.turned {w:World}{R g m:Nat}{v0:Value}{o b0 b1 b2:Nat}{i0:Int}{q:TS}{W W':World}{B:Nat}(h:TZ w R g m v0 o b0 b1 b2 i0 q W)(hB:w.heap.size<=B)(h3:3<=B)(ht:Turned B W W'):TZ w R g m v0 o b0 b1 b2 i0 q W':=⟨h.1.turned hB h3 ht,h.2.2.turned h.2.1 ht,h.2.2⟩
theorem TZ.below {w:World}{R g m:Nat}{v0:Value}{o b0 b1 b2:Nat}{i0:Int}{q:TS}{W W':World}(h:TZ w R g m v0 o b0 b1 b2 i0 q W)(hb:Below W.heap.size W W'):TZ w R g m v0 o b0 b1 b2 i0 q W':=⟨h.1.below hb,h.2.2.below h.2.1 hb,h.2.2⟩
def Und (w:World)(R g m:Nat)(v0:Value)(o b0 b1 b2:Nat)(i0:Int)(q:TS)(x:Ho)(N:Nat)(W:World):Prop:=TZ w R g m v0 o b0 b1 b2 i0 q W/\HoAt W x/\q.1.1.2.length<=900/\FrAt W N x.F x.A
theorem FrAt.turned {B:Nat}{W W':World}{N:Nat}{F:Fr}{A:At}(h:FrAt W N F A)(ht:Turned B W W'):FrAt W' N F A:=ht.block h rfl
theorem store_int (w:World)(a:Addr)(old:Value)(x:Int)(hc:w.cell? a=some old)(hf:w.frozen? a=false):(Instr.storeAt 3 (.pointer (some a)) (.int .i64 x)).run Tryz.prog w=.ok () (w.setCell a (.int .i64 x)):=by
 go_simp
theorem trelease_ok (w:World)(R:Nat)(s:Rv)(n g m:Nat)(v:Value)(ka:Option Addr)(kc:Nat)(ss:List BSl)(h:PAll w R s n g m v ka kc ss)(hok:s.ok)(hT:TTab w)(hhi:∀ k,POwn R g m v k->3<=k)(i0:Int)(cnt:Nat)(hc1:1<=cnt)(hcn:s.ix-i0+1=(cnt:Int))(hi0:0<=i0)(hep:0<=s.ep)(hn:n<=80000000):
  Calls Tryz.prog 87 #[.pointer (some ⟨R,0,none⟩),.int .i64 i0] w λe w'=>∃ vo,e=.returned vo/\Frs w' vo (relN s.key s.ix i0 s cnt).2/\(∀ j,vo.ownBlock=some j->w.heap.size<=j)/\PGo w R g m v (relN s.key s.ix i0 s cnt).1 (n+64*cnt) w':=by
 have hfm:Tryz.prog.follows .mixedOrders=true:=by kernel_rfl
 have hw3:3<=w.heap.size:=by have:=hhi R (.inl rfl);have:=h.at'.lt;omega
 obtain⟨B,hB⟩:∃ B,B=w.heap.size:=⟨_,rfl⟩
 obtain⟨W0,hW0⟩:∃ W0,W0=(((w.alloc (.cells #[.pointer (some ⟨R,0,none⟩)] 33)).alloc (.cells #[.slice none 0 0] 55)).alloc (.cells #[.pointer (some ⟨R,0,none⟩)] 33)).alloc (.cells #[.int .i64 i0] 3):=⟨_,rfl⟩
 have hb0:Below w.heap.size w W0:=by rw[hW0];exact((((Below.refl _ w).alloc (Nat.le_refl _) _).alloc (by simp) _).alloc (by simp;omega) _).alloc (by simp;omega) _
 have hsz:W0.heap.size=B+4:=by rw[hW0,hB];simp
 have hI0:TI w R g m v (B+1) B (B+2) (B+3) i0 ((s,[]),n) W0:=by
  refine⟨v,ka,kc,ss,.slice none 0 0,h.below hb0,Apart.of_below hb0,λ_ h=>.inl h,Frs.nil _,(λj hj=>by cases hj),?_,?_,?_,?_,hT.below hb0,by omega,h.lt (.inr (.inr (.inl rfl)))⟩
  ·have:=Boxed.new (w.alloc (.cells #[.pointer (some ⟨R,0,none⟩)] 33)) 55 (.slice none 0 0)
   rw[World.size_alloc] at this
   rw[hW0,hB];exact(this.alloc _).alloc _
  ·rw[hW0,hB];exact(((Boxed.new w 33 _).alloc _).alloc _).alloc _
  ·have:=Boxed.new ((w.alloc (.cells #[.pointer (some ⟨R,0,none⟩)] 33)).alloc (.cells #[.slice none 0 0] 55)) 33 (.pointer (some ⟨R,0,none⟩))
   rw[World.size_alloc,World.size_alloc] at this
   rw[hW0,hB];exact this.alloc _
  ·have:=Boxed.new (((w.alloc (.cells #[.pointer (some ⟨R,0,none⟩)] 33)).alloc (.cells #[.slice none 0 0] 55)).alloc (.cells #[.pointer (some ⟨R,0,none⟩)] 33)) 3 (.int .i64 i0)
   rw[World.size_alloc,World.size_alloc,World.size_alloc] at this
   rw[hW0,hB];exact this
 have HI0:Hid (TI w R g m v (B+1) B (B+2) (B+3) i0 ((s,[]),n) W0):=hI0
 have HW0:Hid (W0=(((w.alloc (.cells #[.pointer (some ⟨R,0,none⟩)] 33)).alloc (.cells #[.slice none 0 0] 55)).alloc (.cells #[.pointer (some ⟨R,0,none⟩)] 33)).alloc (.cells #[.int .i64 i0] 3)):=hW0
 have HSZ:Hid (W0.heap.size=B+4/\B=w.heap.size/\3<=w.heap.size):=⟨hsz,hB,hw3⟩
 have HOK:Hid (s.ok/\1<=cnt/\s.ix-i0+1=(cnt:Int)/\0<=i0/\0<=s.ep/\n<=80000000):=⟨hok,hc1,hcn,hi0,hep,hn⟩
 have HHI:Hid (∀ k,POwn R g m v k->3<=k):=hhi
 have hun:=unl_ok ((w.alloc (.cells #[.pointer (some ⟨R,0,none⟩)] 33)).alloc (.cells #[.slice none 0 0] 55)) R i0
 rw[World.size_alloc,World.size_alloc] at hun
 have cB:((w.alloc (.cells #[.pointer (some ⟨R,0,none⟩)] 33)).alloc (.cells #[.slice none 0 0] 55)).cell? ⟨w.heap.size,0,none⟩=some (.pointer (some ⟨R,0,none⟩)):=((Boxed.new w 33 (.pointer (some ⟨R,0,none⟩))).alloc _).cell
 clear h hT hok hc1 hcn hi0 hep hn hhi hI0 hb0 hsz hw3 hW0
 refine(callsIn_wide (n:=9)).1 ?_
 refine callsIn_of_wp_marks Tryz.func87 rfl trivial ?_ rfl
 simp only[Tryz.ntmps87,List.size_toArray,List.length_cons,List.length_nil,Nat.reduceAdd,Nat.reduceSub,Array.replicate_succ,Array.replicate_zero,List.push_toArray,List.append_toArray,List.nil_append,List.cons_append]
 gi_wp2
 refine⟨trivial,(callsIn_wide.2 hun).mono ?_⟩
 rintro e w' ⟨rfl,hw'⟩
 rw[hw',<-HW0.out]
 clear hun hw' w' cB HW0
 gi_wp2
 rw[<-hB]
 clear hB
 have r1:B+1+1=B+2:=rfl
 have r2:B+1+1+1=B+3:=rfl
 refine range_own 162 #[.pointer (some ⟨B+2,0,none⟩),.pointer (some ⟨B+3,0,none⟩)] rfl (enters_of Tryz.func162 (by kernel_rfl) rfl)
  hoV (λ_=>rfl) (TZ w R g m v (B+1) B (B+2) (B+3) i0) (λq x W=>TZ w R g m v (B+1) B (B+2) (B+3) i0 q W/\HoAt W x/\q.1.1.2.length<=900) (λq x=>(nxQ q.1 x.F x.key,q.2)) (λ_ _ _=>False)
  (λq=>q.1=atQ s i0 n cnt) ?fI (λ_ _ _ _ h _=>h)
  (λx N=>{ tmps:=#[.pointer (some ⟨R,0,none⟩),.int .i64 i0,.pointer (some ⟨B,0,none⟩),undef,.slice none 0 0,.pointer (some ⟨B+1,0,none⟩),.pointer (some ⟨N,0,none⟩),.slice x.ka 16 x.kc,.pointer (some ⟨R,0,none⟩),.int .i64 i0,.func (.func 162) #[] #[.pointer (some ⟨B+2,0,none⟩),.pointer (some ⟨B+3,0,none⟩)],.agg (frC x.F x.A),.slice x.ka 16 x.kc,undef,undef,undef,undef,undef,undef,undef,undef,undef,undef,undef,undef,undef,undef,undef,undef,undef,undef,undef,undef,undef,undef],defers:=[] })
  (Und w R g m v (B+1) B (B+2) (B+3) i0) ?fA ?assign ?body ?iter (λ_ _ _ _ h _=>h) ?done (λ_ _ _ _ _ h _=>h.elim)
 case fI=>exact λq V V' h ht=>h.turned (by have:=HSZ.out;omega) (by have:=HSZ.out;omega) ht
 case fA=>exact λq x N V V' ⟨h1,h2,h3,h4⟩ ht=>⟨h1.turned (by have:=HSZ.out;omega) (by have:=HSZ.out;omega) ht,h2.turned ht,h3,h4.turned ht⟩
 case assign=>
  rintro l q x W K ⟨h1,h2,h3⟩ hK
  obtain⟨W3,hst,hFr,hb3⟩:=fr_stored W x.F x.A
  have HST:Hid ((Instr.storeAt 41 (.pointer (some ⟨W.heap.size,0,none⟩)) (.agg (frC x.F x.A))).run Tryz.prog (W.alloc (.cells #[.int .i64 0,.int .i64 0,.int .i64 0,.int .i64 0,.int .i64 0,.int .i64 0,.int .u64 0,.int .i64 0,.int .i64 0,.int .i64 0,.slice none 0 0,.slice none 0 0,.slice none 0 0] 41))=.ok () W3):=hst
  have HK:=hK W.heap.size W3 (Below.keepsFrom hb3 _) ⟨h1.below hb3,h2.below hb3,h3,hFr⟩
  clear hK h1 h2 h3 hst hFr hb3
  dsimp only[hoV]
  gi_wp2_with (first|(refine wpListIn_store_run rfl 41 _ _ rfl _ _ rfl rfl HST.out ?_)|fail)
  exact HK
 case iter=>
  intro l W1 hB1 hs1 hl Bk Bx kB hY kX hBk
  exact unl_in 8 l W0.heap.size w R g m v (B+1) B (B+2) (B+3) s n HOK.out.1 i0 cnt HOK.out.2.1 HOK.out.2.2.1 HOK.out.2.2.2.1 HOK.out.2.2.2.2.1 HOK.out.2.2.2.2.2 HHI.out HSZ.out.2.2 (by have:=HSZ.out;omega) Bk Bx kB hY W1 hBk (HI0.out.below hB1)
 case body=>
  rintro l ⟨⟨⟨s1,out⟩,n1⟩,Z⟩ x N W ⟨hZ,hH,hlen,hFr⟩
  show Code.wpIn _ _ _ _ (roundEnds W0.heap.size (TZ w R g m v (B+1) B (B+2) (B+3) i0) (λ_ _ _=>False) (nxQ ((s1,out),n1) x.F x.key,Z) W) _ _
  dsimp only at hlen
  have hbd:Below W.heap.size W W.drew:=(Below.refl _ _).drew
  have HS:Hid (∀ V,Below W.heap.size W V->(λV=>V.cell? ⟨N,5,none⟩=some (.int .i64 x.F.r)/\V.cell? ⟨B,0,none⟩=some (.pointer (some ⟨R,0,none⟩))/\V.cell? ⟨R,15,none⟩=some (.int .i64 s1.last)/\(Instr.loadAt 41 (.pointer (some ⟨N,0,none⟩))).run Tryz.prog V=.ok (.agg (frC x.F x.A)) V) V/\TTab V/\V.frozen? ⟨R,15,none⟩=false):=λV hb=>by
   obtain⟨v1,ka1,kc1,ss1,vo1,q1,_,_,_,_,q6,q7,q8,q9,q10,_⟩:=(hZ.below hb).1
   exact⟨⟨(hFr.below hb).c5,q7.cell,q1.at'.cell 15 rfl,(hFr.below hb).loads⟩,q10,q1.at'.fz 15⟩
  have hS0:=(HS.out _ hbd).1
  have HZ:Hid (TZ w R g m v (B+1) B (B+2) (B+3) i0 (((s1,out),n1),Z) W):=hZ
  have HH:Hid (HoAt W x):=hH
  have HF:Hid (FrAt W N x.F x.A):=hFr
  have HLEN:Hid (out.length<=900):=hlen
  by_cases hlt:s1.last<x.F.r
  ·have KH:=holds_any W.drew x.F x.A x.ka x.kc x.key (HS.out _ hbd).2.1.2 (hH.below hbd).seen hH.num (hH.below hbd).key _ rfl
   rw[hH.len] at KH
   clear hZ hH hlen hFr hbd
   cases hb:holdsB x.key x.F
   ·have HNX:Hid (nxQ ((s1,out),n1) x.F x.key=((s1,out),n1)):=if_neg (by simp[hb])
    rw[hb] at KH
    clear hb
    gi_wp2
    refine region_roundN (S:=λV=>V.cell? ⟨N,5,none⟩=some (.int .i64 x.F.r)/\V.cell? ⟨B,0,none⟩=some (.pointer (some ⟨R,0,none⟩))/\V.cell? ⟨R,15,none⟩=some (.int .i64 s1.last)/\(Instr.loadAt 41 (.pointer (some ⟨N,0,none⟩))).run Tryz.prog V=.ok (.agg (frC x.F x.A)) V) hfm (by kernel_rfl) ?_
    have hS:=hS0
    refine tk 0 hS ?_
    refine tk 1 hS ?_
    refine tk 2 hS ?_
    refine tk 3 hS ?_
    refine tk 4 hS ?_
    refine tk 5 hS ?_
    refine tk 6 (v:=Value.bool true) (hv:=by intro w hSw;(try dsimp only at hSw);go_split_ands;go_simp;first|done|(simp;omega)) hS ?_
    refine tk 7 hS ?_
    refine tk 8 (v:=Value.agg (frC x.F x.A)) (hv:=λW hW=>exec_load 41 (.tmp 6) rfl _ _ rfl hW.2.2.2) hS ?_
    refine tk 9 hS ?_
    refine any_one 10 rfl (by kernel_rfl) (by rfl) (λK hK=>?_)
    clear hS
    go_simp
    refine KH.mono ?_
    rintro ev w5 ⟨rfl,hb5⟩
    have HB5:Hid (Below W.heap.size W w5):=(Below.refl _ _).drew.trans hb5
    clear hb5 KH
    refine hK.out _ _ ((HS.out _ HB5.out).1) (λhS=>?_)
    clear hK
    (try simp only[Act.put,sT])
    refine tk 11 hS ?_
    refine wpAnyH_done (by kernel_rfl) ?_ _
    refine NoOut.normal ?_
    clear hS hS0
    gi_wp2
    exact⟨Below.keepsFrom HB5.out _,by rw[HNX.out];exact HZ.out.below HB5.out⟩
   ·have HNX:Hid (nxQ ((s1,out),n1) x.F x.key=(({ s1 with last:=x.F.r },out++[x.F]),n1)):=if_pos ⟨hlt,hb⟩
    rw[hb] at KH
    clear hb
    gi_wp2
    refine region_roundN (S:=λV=>V.cell? ⟨N,5,none⟩=some (.int .i64 x.F.r)/\V.cell? ⟨B,0,none⟩=some (.pointer (some ⟨R,0,none⟩))/\V.cell? ⟨R,15,none⟩=some (.int .i64 s1.last)/\(Instr.loadAt 41 (.pointer (some ⟨N,0,none⟩))).run Tryz.prog V=.ok (.agg (frC x.F x.A)) V) hfm (by kernel_rfl) ?_
    have hS:=hS0
    refine tk 0 hS ?_
    refine tk 1 hS ?_
    refine tk 2 hS ?_
    refine tk 3 hS ?_
    refine tk 4 hS ?_
    refine tk 5 hS ?_
    refine tk 6 (v:=Value.bool true) (hv:=by intro w hSw;(try dsimp only at hSw);go_split_ands;go_simp;first|done|(simp;omega)) hS ?_
    refine tk 7 hS ?_
    refine tk 8 (v:=Value.agg (frC x.F x.A)) (hv:=λW hW=>exec_load 41 (.tmp 6) rfl _ _ rfl hW.2.2.2) hS ?_
    refine tk 9 hS ?_
    refine any_one 10 rfl (by kernel_rfl) (by rfl) (λK hK=>?_)
    clear hS
    go_simp
    refine KH.mono ?_
    rintro ev w5 ⟨rfl,hb5⟩
    have HB5:Hid (Below W.heap.size W w5):=(Below.refl _ _).drew.trans hb5
    clear hb5 KH
    refine hK.out _ _ ((HS.out _ HB5.out).1) (λhS=>?_)
    clear hK
    (try simp only[Act.put,sT])
    refine tk 11 hS ?_
    refine wpAnyH_done (by kernel_rfl) ?_ _
    refine NoOut.normal ?_
    clear hS hS0
    obtain⟨⟨c5,cb,c15,hld⟩,-,f15⟩:=HS.out _ HB5.out
    obtain⟨vo,v',V1,V3,hV1,cvo,hap,co3,fo3,hZ',hK',a',l',c',rfl⟩:=TZ.rel (HZ.out.below HB5.out) HHI.out HSZ.out.2.2 (HH.out.seen.below HB5.out) HLEN.out W0.heap.size
    have hF1:FrAt V1 N x.F x.A:=by
     rw[hV1]
     have h5:=HF.out.below HB5.out
     refine(heap_setCell_other _ _ _ _ (λe=>?_)).trans h5
     obtain⟨v1,ka1,kc1,ss1,vo1,q1,_⟩:=(HZ.out.below HB5.out).1
     have e1:=q1.at'
     have e2:N=R:=e
     unfold PAt at e1
     unfold FrAt at h5
     rw[<-e2,h5] at e1
     simp at e1
    have HLD1:Hid ((Instr.loadAt 41 (.pointer (some ⟨N,0,none⟩))).run Tryz.prog V1=.ok (.agg (frC x.F x.A)) V1):=hF1.loads
    have HAP:Hid ((Builtin.append_ #[55,55] 55 #[vo,.slice (some ⟨V1.heap.size,0,none⟩) 1 1]).run Tryz.prog (V1.alloc (.cells (frC x.F x.A) 41))=.ok (.slice a' l' c') V3):=hap
    have HST15:Hid ((Instr.storeAt 3 (.pointer (some ⟨R,15,none⟩)) (.int .i64 x.F.r)).run Tryz.prog w5=.ok () V1):=by rw[hV1];exact store_int w5 _ _ _ c15 f15
    have HE:Hid (KeepsFrom W0.heap.size w5 (V3.setCell ⟨B+1,0,none⟩ (.slice a' l' c'))/\TZ w R g m v (B+1) B (B+2) (B+3) i0 ((({ s1 with last:=x.F.r },out++[x.F]),n1),Z) (V3.setCell ⟨B+1,0,none⟩ (.slice a' l' c'))):=⟨hK',hZ'⟩
    clear hld hap hZ' hK' hF1 hV1
    gi_wp2_with (first|(refine wpListIn_store_run rfl 3 _ _ rfl _ _ rfl rfl HST15.out ?_)|(refine wpListIn_load_run rfl 41 _ rfl _ _ rfl HLD1.out ?_)|(refine wpListIn_slice_run rfl 55 1 _ rfl [(0,.agg (frC x.F x.A))] _ rfl (fr_slice V1 x.F x.A) ?_)|(refine wpListIn_append_run rfl _ _ 55 rfl _ _ _ rfl rfl HAP.out ?_)|fail)
    exact⟨(Below.keepsFrom HB5.out _).trans HE.out.1,by rw[HNX.out];exact HE.out.2⟩
  ·have HNX:Hid (nxQ ((s1,out),n1) x.F x.key=((s1,out),n1)):=if_neg (λhh=>hlt hh.1)
   clear hZ hH hlen hFr hbd
   gi_wp2
   refine region_roundN (S:=λV=>V.cell? ⟨N,5,none⟩=some (.int .i64 x.F.r)/\V.cell? ⟨B,0,none⟩=some (.pointer (some ⟨R,0,none⟩))/\V.cell? ⟨R,15,none⟩=some (.int .i64 s1.last)/\(Instr.loadAt 41 (.pointer (some ⟨N,0,none⟩))).run Tryz.prog V=.ok (.agg (frC x.F x.A)) V) hfm (by kernel_rfl) ?_
   have hS:=hS0
   refine tk 0 hS ?_
   refine tk 1 hS ?_
   refine tk 2 hS ?_
   refine tk 3 hS ?_
   refine tk 4 hS ?_
   refine tk 5 hS ?_
   refine tk 6 (v:=Value.bool false) (hv:=by intro w hSw;(try dsimp only at hSw);go_split_ands;go_simp;first|done|(simp;omega)) hS ?_
   refine tk 7 hS ?_
   refine tq 8 hS ?_
   refine tq 9 hS ?_
   refine tq 10 hS ?_
   refine tk 11 hS ?_
   refine wpAnyH_done (by kernel_rfl) ?_ _
   refine NoOut.normal ?_
   clear hS hS0
   gi_wp2
   exact⟨Below.keepsFrom (Below.refl _ _).drew _,by rw[HNX.out];exact HZ.out.below (Below.refl _ _).drew⟩
 case done=>
  rintro D q V hD hq hZ hK
  have hT:=hZ.1
  rw[hq] at hT
  obtain⟨v1,ka1,kc1,ss1,vo,h1,h2,h3,h4,h5,h6,_⟩:=id hT
  have c1:=h6.cell
  have HK:Hid (V.heap[D]?=some (.deferred (some []))):=hK
  have HE:Hid (Frs (V.putObj D (.deferred none)) vo (relN s.key s.ix i0 s cnt).2/\(∀ j,vo.ownBlock=some j->w.heap.size<=j)/\PGo w R g m v (relN s.key s.ix i0 s cnt).1 (n+64*cnt) (V.putObj D (.deferred none))):=by
   have ha:Apart (λk=>k=D) V (V.putObj D (.deferred none)):=⟨rfl,rfl,rfl,by simp,λk _ hk=>World.putObj_heap_other hk⟩
   have hp:∀ k,k=D->Plain V k:=λk e i y hc=>by rw[e] at hc;simp[World.cell?,hK] at hc
   have hs:=HSZ.out
   refine⟨h4.apart ha (λk hk e=>?_) hp,h5,v1,ka1,kc1,ss1,h1.apart ha (λk e ho=>?_) hp,h2.trans ha (λk e=>.inr (by omega)),h3⟩
   ·obtain⟨os,r1,_,_⟩:=h4
    obtain⟨cur,e',_⟩:=r1.isRow hk
    rw[e,hK] at e';cases e'
   ·rcases h1.obj ho with ⟨cur,t,e',_⟩|⟨es,cl,e'⟩
    ·rw[e,hK] at e';cases e'
    ·rw[e,hK] at e';cases e'
  clear h1 h2 h3 h4 h5 h6 hT hZ hq hK
  gi_wp2
  refine⟨by simp,.inl ⟨_,_,rfl,run_takeDeferred HK.out,?_⟩⟩
  exact⟨_,results_tmp rfl _ _ _,vo,rfl,HE.out⟩
end Go.Proofs.YthogohkieiogiaaGreatDoor
