/-
  What the hand that writes makes of a right frame.

  The hand that writes.
  The hand that reads.
-/
import Derived.Test.YthogohkieiogiaaGreatDoorFrameA
import Derived.Test.YthogohkieiogiaaGreatDoorBitsE
namespace Go.Proofs.YthogohkieiogiaaGreatDoor
set_option maxRecDepth 20000
set_option maxHeartbeats 1600000
open Go.ChangeShapes Go.WideShapes Go.ChangeAt Go.RowKit
theorem putB_fits (bs:List Bool)(n V:Nat)(hV:V<=64)(hn:n<2^V)(hl:bs.length+V<=8192):putB bs n (V:Int)=bs++bitsN n V:=by
 have h0:putP bs.length n (V:Int)=0:=by
  unfold putP
  rw[if_neg (by simp only[Int.toNat_natCast];omega),if_neg (by simp only[Int.toNat_natCast];omega)]
 unfold putB
 rw[if_pos h0,Int.toNat_natCast]
theorem bytesB_fits (bs:List Bool)(l:List UInt8)(h1:l.length<=1024)(hl:bs.length+8*l.length<=8192):bytesB bs l=bs++bitsOf l:=by
 have h0:bytesP bs.length l.length=0:=by unfold bytesP;rw[if_neg (by omega)]
 unfold bytesB
 rw[if_pos h0]
theorem core_inr (F:Fr)(hn:F.n<18446744073709551616)(hr:coreB F=true):InR0 F/\F.body.length<=16/\(F.k=1\/F.k=2\/F.k=3)/\(F.k=1\/F.k=3->F.key.length=16):=by
 unfold coreB at hr
 simp only[Bool.and_eq_true,decide_eq_true_eq] at hr
 obtain⟨⟨hN,hB⟩,hK⟩:=hr
 obtain⟨hf,ht,he,hs,hrr,hm,hv,hi⟩:=(numsB_iff F).1 hN
 have hk:(F.k=1\/F.k=2\/F.k=3)/\(F.k=1\/F.k=3->F.key.length=16):=by
  by_cases k1:F.k=1
  ·rw[if_pos k1] at hK;simp only[decide_eq_true_eq] at hK;exact⟨.inl k1,λ_=>hK.1⟩
  ·rw[if_neg k1] at hK
   by_cases k2:F.k=2
   ·exact⟨.inr (.inl k2),λh=>by omega⟩
   ·rw[if_neg k2] at hK
    by_cases k3:F.k=3
    ·rw[if_pos k3] at hK;simp only[decide_eq_true_eq] at hK;exact⟨.inr (.inr k3),λ_=>hK.2.1⟩
    ·rw[if_neg k3] at hK;cases hK
 exact⟨⟨by omega,by omega,by omega,by omega,by omega,by omega,hn,by omega,by omega,by omega⟩,hB,hk⟩
theorem wcore_bits (F:Fr)(hn:F.n<18446744073709551616)(hr:coreB F=true):
  coreG (λ_ n _=>n) (λbs n V=>putB bs n (V:Int)) (λ_ l _=>l) (λbs l _=>bytesB bs l) [] F=(F,coreBits F)/\(coreBits F).length<=333:=by
 obtain⟨hI,hB,hk3,hkey⟩:=core_inr F hn hr
 unfold coreB at hr
 simp only[Bool.and_eq_true,decide_eq_true_eq] at hr
 obtain⟨⟨hN,_⟩,_⟩:=hr
 obtain⟨hf,ht,he,hs,hrr,hm,hv,hi⟩:=(numsB_iff F).1 hN
 have tk:((F.k.toNat:Nat):Int)=F.k:=by omega
 have tf:((F.f.toNat:Nat):Int)=F.f:=by omega
 have tt:((F.t.toNat:Nat):Int)=F.t:=by omega
 have te:((F.e.toNat:Nat):Int)=F.e:=by omega
 have ts:((F.s.toNat:Nat):Int)=F.s:=by omega
 have tr:((F.r.toNat:Nat):Int)=F.r:=by omega
 have tm:((F.m.toNat:Nat):Int)=F.m:=by omega
 have tv:((F.v.toNat:Nat):Int)=F.v:=by omega
 have ti:((F.i.toNat:Nat):Int)=F.i:=by omega
 have e1:=putB_fits [] F.k.toNat 4 (by omega) (by omega) (by simp)
 have e2:=putB_fits ([]++bitsN F.k.toNat 4) F.f.toNat 4 (by omega) (by omega) (by simp[bitsN_length])
 obtain⟨B,hBB⟩:∃ B,B=[]++bitsN F.k.toNat 4++bitsN F.f.toNat 4:=⟨_,rfl⟩
 have hBl:B.length=8:=by rw[hBB];simp[bitsN_length]
 have hcg:coreG (λ_ n _=>n) (λbs n V=>putB bs n (V:Int)) (λ_ l _=>l) (λbs l _=>bytesB bs l) [] F=if F.k=1 then dataG (λ_ n _=>n) (λbs n V=>putB bs n (V:Int)) (λ_ l _=>l) (λbs l _=>bytesB bs l) B F else if F.k=2 then pingG (λ_ n _=>n) (λbs n V=>putB bs n (V:Int)) B F else if F.k=3 then pongG (λ_ n _=>n) (λbs n V=>putB bs n (V:Int)) (λ_ l _=>l) (λbs l _=>bytesB bs l) B F else (F,B):=by
  unfold coreG
  simp only[tk,tf]
  rw[hBB,<-e2,<-e1]
 rw[hcg]
 have hcb:coreBits F=B++kindBits F:=by rw[hBB];rfl
 rw[hcb]
 clear hcb hcg hBB e1 e2
 by_cases k1:F.k=1
 ·have hky:=hkey (.inl k1)
  rw[if_pos k1]
  unfold kindBits
  rw[if_pos k1]
  have a1:=putB_fits B F.e.toNat 16 (by omega) (by omega) (by omega)
  have a2:=putB_fits (B++bitsN F.e.toNat 16) F.r.toNat 24 (by omega) (by omega) (by simp[bitsN_length];omega)
  have a3:=putB_fits (B++bitsN F.e.toNat 16++bitsN F.r.toNat 24) F.v.toNat 8 (by omega) (by omega) (by simp[bitsN_length];omega)
  have a4:=putB_fits (B++bitsN F.e.toNat 16++bitsN F.r.toNat 24++bitsN F.v.toNat 8) F.i.toNat 16 (by omega) (by omega) (by simp[bitsN_length];omega)
  have a5:=bytesB_fits (B++bitsN F.e.toNat 16++bitsN F.r.toNat 24++bitsN F.v.toNat 8++bitsN F.i.toNat 16) F.key (by omega) (by simp[bitsN_length];omega)
  have a6:=putB_fits (B++bitsN F.e.toNat 16++bitsN F.r.toNat 24++bitsN F.v.toNat 8++bitsN F.i.toNat 16++bitsOf F.key) F.body.length 5 (by omega) (by omega) (by simp[bitsN_length,bitsOf_length];omega)
  have a7:=bytesB_fits (B++bitsN F.e.toNat 16++bitsN F.r.toNat 24++bitsN F.v.toNat 8++bitsN F.i.toNat 16++bitsOf F.key++bitsN F.body.length 5) F.body (by omega) (by simp[bitsN_length,bitsOf_length];omega)
  constructor
  ·unfold dataG dataBits
   simp only[a1,a2,a3,a4,a5,a6,a7,te,tr,tv,ti]
   simp only[List.append_assoc]
  ·simp only[dataBits,List.length_append,bitsN_length,bitsOf_length];omega
 ·rw[if_neg k1]
  by_cases k2:F.k=2
  ·rw[if_pos k2]
   unfold kindBits
   rw[if_neg k1,if_pos k2]
   have a1:=putB_fits B F.t.toNat 4 (by omega) (by omega) (by omega)
   have a2:=putB_fits (B++bitsN F.t.toNat 4) F.n 64 (by omega) (by omega) (by simp[bitsN_length];omega)
   constructor
   ·unfold pingG pingBits
    simp only[a1,a2,tt]
    simp only[List.append_assoc]
   ·simp only[pingBits,List.length_append,bitsN_length];omega
  ·have k3:F.k=3:=by omega
   have hky:=hkey (.inr k3)
   rw[if_neg k2,if_pos k3]
   unfold kindBits
   rw[if_neg k1,if_neg k2]
   have a1:=putB_fits B F.t.toNat 4 (by omega) (by omega) (by omega)
   have a2:=putB_fits (B++bitsN F.t.toNat 4) F.n 64 (by omega) (by omega) (by simp[bitsN_length];omega)
   have a3:=putB_fits (B++bitsN F.t.toNat 4++bitsN F.n 64) F.m.toNat 48 (by omega) (by omega) (by simp[bitsN_length];omega)
   have a4:=putB_fits (B++bitsN F.t.toNat 4++bitsN F.n 64++bitsN F.m.toNat 48) F.e.toNat 16 (by omega) (by omega) (by simp[bitsN_length];omega)
   have a5:=putB_fits (B++bitsN F.t.toNat 4++bitsN F.n 64++bitsN F.m.toNat 48++bitsN F.e.toNat 16) F.s.toNat 24 (by omega) (by omega) (by simp[bitsN_length];omega)
   have a6:=putB_fits (B++bitsN F.t.toNat 4++bitsN F.n 64++bitsN F.m.toNat 48++bitsN F.e.toNat 16++bitsN F.s.toNat 24) F.i.toNat 16 (by omega) (by omega) (by simp[bitsN_length];omega)
   have a7:=bytesB_fits (B++bitsN F.t.toNat 4++bitsN F.n 64++bitsN F.m.toNat 48++bitsN F.e.toNat 16++bitsN F.s.toNat 24++bitsN F.i.toNat 16) F.key (by omega) (by simp[bitsN_length];omega)
   constructor
   ·unfold pongG pingG pongBits pingBits
    simp only[a1,a2,a3,a4,a5,a6,a7,tt,tm,te,ts,ti]
    simp only[List.append_assoc]
   ·simp only[pongBits,pingBits,List.length_append,bitsN_length,bitsOf_length];omega
theorem wwhole_bits (F:Fr)(hn:F.n<18446744073709551616)(hr:rightB F=true):
  wholeG (λ_ n _=>n) (λbs n V=>putB bs n (V:Int)) (λ_ l _=>l) (λbs l _=>bytesB bs l) [] F=(F,coreBits F++bitsOf F.tag)/\(coreBits F++bitsOf F.tag).length<=397:=by
 unfold rightB at hr
 simp only[Bool.and_eq_true,decide_eq_true_eq] at hr
 obtain⟨h1,h2⟩:=wcore_bits F hn hr.1
 have hT:=hr.2
 have a:=bytesB_fits (coreBits F) F.tag (by omega) (by omega)
 constructor
 ·unfold wholeG
  rw[h1]
  simp only[a]
 ·rw[List.length_append,bitsOf_length];omega
def WrM (w:World)(b:Nat)(bs:List Bool)(F:Nat->Prop):Prop:=RowB 146 [] w b bs F/\bs.length<=8192
theorem wrm_kept:Kept WrM where
 lt:=λh=>(rowB_kept 146 []).lt h.1
 keep:=λh hk=>⟨(rowB_kept 146 []).keep h.1 hk,h.2⟩
def wrV (b:Nat):Value:=.agg #[.pointer (some ⟨b,0,none⟩)]
theorem wnum_ok (w:World)(b:Nat)(bs:List Bool)(F:Nat->Prop)(n V:Nat)(hm:WrM w b bs F)(hn:n<18446744073709551616):
  Calls Tryz.prog 80 #[wrV b,.int .u64 (n:Int),.int .i64 (V:Int)] w λe w'=>e=.returned (.int .u64 (n:Int))/\Left WrM w F b (putB bs n V) w':=by
 have hm1:=wrm_kept.alloc hm (.cells #[.pointer (some ⟨b,0,none⟩)] 148)
 have hc:=wput_ok (w.alloc (.cells #[.pointer (some ⟨b,0,none⟩)] 148)) b bs F n V hm1.1 hn hm1.2
 have hl:=putB_len bs n (V:Int) hm.2
 have HL:Hid (∀ w1,Left (RowB 146 []) (w.alloc (.cells #[.pointer (some ⟨b,0,none⟩)] 148)) F b (putB bs n V) w1->Left WrM w F b (putB bs n V) w1):=λw1 h=>by
  obtain⟨F',h1,h2,h3⟩:=h
  exact Left.of_alloc ⟨F',⟨h1,hl⟩,h2,h3⟩
 obtain⟨P,hP⟩:∃ P,P=putP bs.length n (V:Int):=⟨_,rfl⟩
 rw[<-hP] at hc
 clear hm hm1 hl hP
 unfold wrV
 go_enter Tryz.func80,Tryz.ntmps80
 go_wp2_with fail
 refine hc.mono ?_
 rintro e w1 ⟨rfl,hL⟩
 have HX:Hid (Left WrM w F b (putB bs n V) w1):=HL.out w1 hL
 clear hc hL HL
 go_wp2
 go_ret
 exact⟨rfl,HX.out⟩
theorem wlist_ok (w:World)(b:Nat)(bs:List Bool)(F:Nat->Prop)(x:Option Addr)(cx:Nat)(l:List UInt8)(n:Int)(hm:WrM w b bs F)(hs:Sees w x cx l)(hcl:Clear F x l):
  Calls Tryz.prog 81 #[wrV b,.slice x l.length cx,.int .i64 n] w λe w'=>e=.returned (.slice x l.length cx)/\Sees w' x cx l/\∃ F',WrM w' b (bytesB bs l) F'/\Apart F w w'/\(∀ k,F' k->F k\/w.heap.size<=k)/\Clear F' x l:=by
 have hm1:=wrm_kept.alloc hm (.cells #[.pointer (some ⟨b,0,none⟩)] 148)
 have hc:=wbytes_ok (w.alloc (.cells #[.pointer (some ⟨b,0,none⟩)] 148)) b bs F x cx l hm1.1 (hs.below (Go.Joins.below_alloc1 _ _)) hcl hm1.2
 have hl:=bytesB_len bs l hm.2
 have HL:Hid (∀ w1,Left (RowB 146 []) (w.alloc (.cells #[.pointer (some ⟨b,0,none⟩)] 148)) F b (bytesB bs l) w1->Sees w1 x cx l/\∃ F',WrM w1 b (bytesB bs l) F'/\Apart F w w1/\(∀ k,F' k->F k\/w.heap.size<=k)/\Clear F' x l):=λw1 h=>by
  obtain⟨F',h1,h2,h3⟩:=h
  obtain⟨F'',k1,k2,k3⟩:Left WrM w F b (bytesB bs l) w1:=Left.of_alloc ⟨F',⟨h1,hl⟩,h2,h3⟩
  refine⟨k2.sees hs hcl,F'',k1,k2,k3,λg off e hne hg=>?_⟩
  rcases k3 g hg with h|h
  ·exact hcl g off e hne h
  ·have:=hs.lt g off e hne;omega
 obtain⟨P,hP⟩:∃ P,P=bytesP bs.length l.length:=⟨_,rfl⟩
 rw[<-hP] at hc
 clear hm hm1 hl hP hs hcl
 unfold wrV
 go_enter Tryz.func81,Tryz.ntmps81
 go_wp2_with fail
 refine hc.mono ?_
 rintro e w1 ⟨rfl,hL⟩
 have HX:=HL.out w1 hL
 have HXX:Hid (Sees w1 x cx l/\∃ F',WrM w1 b (bytesB bs l) F'/\Apart F w w1/\(∀ k,F' k->F k\/w.heap.size<=k)/\Clear F' x l):=HX
 clear hc hL HL HX
 go_wp2
 go_ret
 exact⟨rfl,HXX.out⟩
theorem hand_wr (b:Nat):Hand 80 81 (wrV b) WrM b (λ_ n _=>n) (λbs n V=>putB bs n (V:Int)) (λ_ l _=>l) (λbs l _=>bytesB bs l) where
 kept:=wrm_kept
 ei:=λargs w=>by simp[callFunc,Tryz.func80,Tryz.f80]
 ej:=λargs w=>by simp[callFunc,Tryz.func81,Tryz.f81]
 lt:=λ_ n _ h _=>h
 lt5:=λ_ n h=>by omega
 lt64:=λ_ n _ h _=>h
 num:=λw s F n V hm hn _=>wnum_ok w b s F n V hm hn
 list:=λw s F x cx l n hm hs hc _=>(wlist_ok w b s F x cx l n hm hs hc).mono λe w' ⟨he,h1,h2⟩=>⟨x,cx,l,rfl,he,h1,h2⟩
theorem two_one (f1 f2:Fn)(r:Value):(#[Value.func f1 #[r] #[],Value.func f2 #[r] #[]]:Array Value).all (·.oneCell')=true:=
 all_oneCell_toArray (cs:=[Value.func f1 #[r] #[],Value.func f2 #[r] #[]]) (by
  intro v hv
  simp only[List.mem_cons,List.not_mem_nil,or_false] at hv
  rcases hv with rfl|rfl<;>rfl)
theorem hand_laid (w:World)(o:Obj)(f1 f2:Fn)(r:Value):∃ W,(Instr.storeAt 101 (.pointer (some ⟨w.heap.size,0,none⟩)) (.agg #[.func f1 #[r] #[],.func f2 #[r] #[]])).run Tryz.prog ((w.alloc (.cells #[.nilFunc,.nilFunc] 101)).alloc o)=.ok () W /\
  W.heap[w.heap.size]?=some (.cells #[.func f1 #[r] #[],.func f2 #[r] #[]] 101 (0,0))/\Below w.heap.size w W:=by
 have h1:(w.alloc (.cells #[.nilFunc,.nilFunc] 101)).heap[w.heap.size]?=some (.cells #[.nilFunc,.nilFunc] 101 (0,0)):=heap_alloc_new _ _
 have h2:((w.alloc (.cells #[.nilFunc,.nilFunc] 101)).alloc o).heap[w.heap.size]?=some (.cells #[.nilFunc,.nilFunc] 101 (0,0)):=by
  rw[(Go.Joins.below_alloc1 (w.alloc (.cells #[.nilFunc,.nilFunc] 101)) o).block _ (by simp)];exact h1
 exact⟨_,storeAt_row _ _ 101 101 _ _ h2 (by kernel_rfl) rfl (two_one f1 f2 r),setRow_heap _ _ _ _ 101 _ h2,below_setRow (Go.Joins.below_alloc2 _ _ _) (Nat.le_refl _) _⟩
theorem hand_laid1 (w:World)(f1 f2:Fn)(r:Value):∃ W,(Instr.storeAt 101 (.pointer (some ⟨w.heap.size,0,none⟩)) (.agg #[.func f1 #[r] #[],.func f2 #[r] #[]])).run Tryz.prog (w.alloc (.cells #[.nilFunc,.nilFunc] 101))=.ok () W /\
  W.heap[w.heap.size]?=some (.cells #[.func f1 #[r] #[],.func f2 #[r] #[]] 101 (0,0))/\Below w.heap.size w W:=by
 have h1:(w.alloc (.cells #[.nilFunc,.nilFunc] 101)).heap[w.heap.size]?=some (.cells #[.nilFunc,.nilFunc] 101 (0,0)):=heap_alloc_new _ _
 exact⟨_,storeAt_row _ _ 101 101 _ _ h1 (by kernel_rfl) rfl (two_one f1 f2 r),setRow_heap _ _ _ _ 101 _ h1,below_setRow (Go.Joins.below_alloc1 _ _) (Nat.le_refl _) _⟩
theorem writing_ok (w:World)(b:Nat):Calls Tryz.prog 45 #[.pointer (some ⟨b,0,none⟩)] w λe w'=>e=.returned (.agg #[.func (.func 80) #[wrV b] #[],.func (.func 81) #[wrV b] #[]])/\Below w.heap.size w w':=by
 have hmf:∀ (fn:Fn) (first cap:Array Value) (w:World),(Instr.makeFunc fn first cap).run Tryz.prog w=.ok (.func fn first cap) w:=λ_ _ _ _=>rfl
 obtain⟨W,hst,hW,hb⟩:=hand_laid w (.cells #[.pointer (some ⟨b,0,none⟩)] 148) (.func 80) (.func 81) (.agg #[.pointer (some ⟨b,0,none⟩)])
 unfold wrV
 have HST:Hid ((Instr.storeAt 101 (.pointer (some ⟨w.heap.size,0,none⟩)) (.agg #[.func (.func 80) #[.agg #[.pointer (some ⟨b,0,none⟩)]] #[],.func (.func 81) #[.agg #[.pointer (some ⟨b,0,none⟩)]] #[]])).run Tryz.prog ((w.alloc (.cells #[.nilFunc,.nilFunc] 101)).alloc (.cells #[.pointer (some ⟨b,0,none⟩)] 148))=.ok () W):=hst
 have HW:Hid (W.heap[w.heap.size]?=some (.cells #[.func (.func 80) #[.agg #[.pointer (some ⟨b,0,none⟩)]] #[],.func (.func 81) #[.agg #[.pointer (some ⟨b,0,none⟩)]] #[]] 101 (0,0))/\Below w.heap.size w W):=⟨hW,hb⟩
 clear hst hW hb
 go_enter Tryz.func45,Tryz.ntmps45
 go_wp2_with (first|(refine wpList_store_run rfl 101 _ _ rfl _ _ rfl rfl HST.out ?_)|fail)
 refine bodyPost_ret (results_cell_row rfl _ W w.heap.size 101 _ (0,0) _ rfl HW.out.1 Tryz.underlying101 rfl (by kernel_rfl)) rfl ?_
 exact⟨rfl,HW.out.2⟩
def FrM (l:List UInt8)(c:Nat)(w:World)(q:Nat)(s:Rs)(F:Nat->Prop):Prop:=
 w.heap[q]?=some (.cells #[.pointer (some ⟨c,0,none⟩),.bool s.miss] 97 (0,0))/\s.at_<=8*l.length/\l.length<=140737488355328/\∃ F',RdM l w c s.at_ F'/\¬ F' q/\(∀ k,F' k->F k)/\F q/\∀ k,F k->k<w.heap.size
theorem frm_kept (l:List UInt8)(c:Nat):Kept (FrM l c) where
 lt:=λ⟨_,_,_,_,_,_,_,_,h⟩=>h
 keep:=λ{w w' b s F} ⟨h1,h2,hl,F',h3,h4,h5,h6,h7⟩ hk=>⟨(hk b h6).trans h1,h2,hl,F',(rd_kept l).keep h3 (λk hF=>hk k (h5 k hF)),h4,h5,h6,λk hF=>by
  have h8:w'.heap[k]?=some (w.heap[k]'(h7 k hF)):=by rw[hk k hF];simp[h7 k hF]
  exact(Array.getElem?_eq_some_iff.1 h8).1⟩
theorem FrM.cells {l:List UInt8}{c:Nat}{w:World}{q:Nat}{s:Rs}{F:Nat->Prop}(h:FrM l c w q s F):w.cell? ⟨q,0,none⟩=some (.pointer (some ⟨c,0,none⟩))/\w.cell? ⟨q,1,none⟩=some (.bool s.miss)/\w.frozen? ⟨q,1,none⟩=false:=
 ⟨cell_of_row _ _ 0 _ _ _ h.1,cell_of_row _ _ 1 _ _ _ h.1,frozen_of_row _ _ 1 _ _ h.1⟩
theorem FrM.went {l:List UInt8}{c:Nat}{w w1:World}{q:Nat}{s:Rs}{F F':Nat->Prop}(h:FrM l c w q s F)(hn:¬ F' q)(hs:∀ k,F' k->F k)(m:Nat)(hm:m<=8*l.length)(hL:Stay (RdM l) w F' c m w1)(t:Bool):
  (w1.cell? ⟨q,1,none⟩=some (.bool s.miss)/\w1.frozen? ⟨q,1,none⟩=false)/\FrM l c (w1.setCell ⟨q,1,none⟩ (.bool t)) q ⟨m,t⟩ F/\Apart F w (w1.setCell ⟨q,1,none⟩ (.bool t)):=by
 obtain⟨h1,h2,hl,_,_,_,_,h6,h7⟩:=h
 obtain⟨hr,ha⟩:=hL
 have h8:w1.heap[q]?=some (.cells #[.pointer (some ⟨c,0,none⟩),.bool s.miss] 97 (0,0)):=by rw[ha.block q (h7 q h6) hn];exact h1
 refine⟨⟨cell_of_row _ _ 1 _ _ _ h8,frozen_of_row _ _ 1 _ _ h8⟩,⟨by rw[heap_setCell_same _ _ _ _ _ _ h8];rfl,hm,hl,F',(rd_kept l).keep hr (λk hk=>heap_setCell_other _ _ _ _ (λe=>hn (by have e2:k=q:=e;rw[<-e2];exact hk))),hn,hs,h6,λk hk=>?_⟩,?_⟩
 ·have:=h7 k hk;have:=ha.size;simp;omega
 ·exact(ha.mono hs).setCell (.inl h6) 1 _
theorem takeAt_le (l:List UInt8)(at_:Nat)(n:Int)(h:at_<=8*l.length):takeAt l at_ n<=8*l.length:=by
 unfold takeAt
 by_cases h0:takeP (8*l.length-at_) n=0
 ·rw[if_pos h0]
  unfold takeP at h0
  by_cases h1:n<0\/1024<n
  ·rw[if_pos h1] at h0;cases h0
  ·rw[if_neg h1] at h0
   by_cases h2:((8*l.length-at_:Nat):Int)<8*n
   ·rw[if_pos h2] at h0;cases h0
   ·omega
 ·rw[if_neg h0];exact h
theorem rnum_ok (l:List UInt8)(c:Nat)(w:World)(q:Nat)(s:Rs)(F:Nat->Prop)(x:Int)(V:Nat)(hm:FrM l c w q s F):
  Calls Tryz.prog 73 #[.pointer (some ⟨q,0,none⟩),.int .u64 x,.int .i64 (V:Int)] w λe w'=>e=.returned (.int .u64 ((numN l s V:Nat):Int))/\FrM l c w' q (numS l s V) F/\Apart F w w':=by
 obtain⟨c0,c1,f1⟩:=hm.cells
 have hm0:=hm
 obtain⟨_,hle,hl,F',hr,hn,hs,_,_⟩:=hm
 have hc:=rdget_ok l w c s.at_ F' hr hl (V:Int) hle
 have hat:=getAt_le l s.at_ (V:Int) hle
 unfold numN numS
 obtain⟨N,hN⟩:∃ N,N=getN l s.at_ (V:Int):=⟨_,rfl⟩
 obtain⟨m,hm1⟩:∃ m,m=getAt l s.at_ (V:Int):=⟨_,rfl⟩
 obtain⟨P,hP⟩:∃ P,P=getP (8*l.length-s.at_) (V:Int):=⟨_,rfl⟩
 rw[<-hN,<-hm1,<-hP]
 rw[<-hN,<-hm1,<-hP] at hc
 rw[<-hm1] at hat
 have HW:Hid (∀ w1,Stay (RdM l) w F' c m w1->∀ t,(w1.cell? ⟨q,1,none⟩=some (.bool s.miss)/\w1.frozen? ⟨q,1,none⟩=false)/\FrM l c (w1.setCell ⟨q,1,none⟩ (.bool t)) q ⟨m,t⟩ F/\Apart F w (w1.setCell ⟨q,1,none⟩ (.bool t))):=λw1 hL t=>hm0.went hn hs m hat hL t
 generalize s.miss=b at *
 clear hm0 hr hn hs hat hN hm1 hP hle hl f1
 cases b
 ·by_cases h0:P=0
  ·have g0:((P:Int) != 0)=false:=by simp[h0]
   have e0:(false||decide (P≠0))=false:=by simp[h0]
   rw[e0]
   clear h0 e0
   go_enter Tryz.func73,Tryz.ntmps73
   go_wp2_with fail
   refine hc.mono ?_
   rintro e w1 ⟨rfl,hL⟩
   obtain⟨⟨d1,z1⟩,hX⟩:=HW.out w1 hL false
   have HX:Hid (FrM l c (w1.setCell ⟨q,1,none⟩ (.bool false)) q ⟨m,false⟩ F/\Apart F w (w1.setCell ⟨q,1,none⟩ (.bool false))):=hX
   clear hc hL HW c0 c1 hX
   go_wp2
   go_ret
   exact⟨rfl,HX.out⟩
  ·have g0:((P:Int) != 0)=true:=by simp;omega
   have e0:(false||decide (P≠0))=true:=by simp[h0]
   rw[e0]
   clear h0 e0
   go_enter Tryz.func73,Tryz.ntmps73
   go_wp2_with fail
   refine hc.mono ?_
   rintro e w1 ⟨rfl,hL⟩
   obtain⟨⟨d1,z1⟩,hX⟩:=HW.out w1 hL true
   have HX:Hid (FrM l c (w1.setCell ⟨q,1,none⟩ (.bool true)) q ⟨m,true⟩ F/\Apart F w (w1.setCell ⟨q,1,none⟩ (.bool true))):=hX
   clear hc hL HW c0 c1 hX
   go_wp2
   go_ret
   exact⟨rfl,HX.out⟩
 ·rw[Bool.true_or]
  go_enter Tryz.func73,Tryz.ntmps73
  go_wp2_with fail
  refine hc.mono ?_
  rintro e w1 ⟨rfl,hL⟩
  obtain⟨⟨d1,z1⟩,hX⟩:=HW.out w1 hL true
  have HX:Hid (FrM l c (w1.setCell ⟨q,1,none⟩ (.bool true)) q ⟨m,true⟩ F/\Apart F w (w1.setCell ⟨q,1,none⟩ (.bool true))):=hX
  clear hc hL HW c0 c1 hX
  go_wp2
  go_ret
  exact⟨rfl,HX.out⟩
theorem rlist_ok (l:List UInt8)(c:Nat)(w:World)(q:Nat)(s:Rs)(F:Nat->Prop)(x:Value)(n:Nat)(hm:FrM l c w q s F):
  Calls Tryz.prog 74 #[.pointer (some ⟨q,0,none⟩),x,.int .i64 (n:Int)] w λe w'=>∃ d cd y,Hid (y=lstN l s n)/\e=.returned (.slice d y.length cd)/\Sees w' d cd y/\(∀ g o,d=some ⟨g,o,none⟩->w.heap.size<=g)/\FrM l c w' q (lstS l s n) F/\Apart F w w':=by
 obtain⟨c0,c1,f1⟩:=hm.cells
 have hm0:=hm
 obtain⟨_,hle,hl,F',hr,hn,hs,hFq,hFlt⟩:=hm
 have hc:=rdtake_fresh l w c s.at_ F' hr hl (n:Int) hle
 have hat:=takeAt_le l s.at_ (n:Int) hle
 unfold lstN lstS
 obtain⟨N,hN⟩:∃ N,N=takeL l s.at_ (n:Int):=⟨_,rfl⟩
 obtain⟨m,hm1⟩:∃ m,m=takeAt l s.at_ (n:Int):=⟨_,rfl⟩
 obtain⟨P,hP⟩:∃ P,P=takeP (8*l.length-s.at_) (n:Int):=⟨_,rfl⟩
 rw[<-hN,<-hm1,<-hP]
 rw[<-hN,<-hm1,<-hP] at hc
 rw[<-hm1] at hat
 have HW:Hid (∀ w1 (d:Option Addr) (cd:Nat) (y:List UInt8),Stay (RdM l) w F' c m w1->Sees w1 d cd y->(∀ g o,d=some ⟨g,o,none⟩->w.heap.size<=g)->∀ t,(w1.cell? ⟨q,1,none⟩=some (.bool s.miss)/\w1.frozen? ⟨q,1,none⟩=false)/\Sees (w1.setCell ⟨q,1,none⟩ (.bool t)) d cd y/\FrM l c (w1.setCell ⟨q,1,none⟩ (.bool t)) q ⟨m,t⟩ F/\Apart F w (w1.setCell ⟨q,1,none⟩ (.bool t))):=λw1 d cd y hL hy hd t=>by
  obtain⟨h1,h2⟩:=hm0.went hn hs m hat hL t
  refine⟨h1,hy.set _ (λb off e _=>?_),h2⟩
  have:=hd b off e
  have:=hFlt q hFq
  omega
 generalize s.miss=b at *
 clear hm0 hr hn hs hat hN hm1 hP hle hl f1 hFq hFlt
 cases b
 ·by_cases h0:P=0
  ·have g0:((P:Int) != 0)=false:=by simp[h0]
   have e0:(false||decide (P≠0))=false:=by simp[h0]
   rw[e0]
   clear h0 e0
   go_enter Tryz.func74,Tryz.ntmps74
   go_wp2_with fail
   refine hc.mono ?_
   rintro e w1 ⟨d,cd,y,hy,rfl,hsy,hL,hd⟩
   obtain⟨⟨d1,z1⟩,hX⟩:=HW.out w1 d cd y hL hsy hd false
   have HX:Hid ((∀ g o,d=some ⟨g,o,none⟩->w.heap.size<=g)/\Sees (w1.setCell ⟨q,1,none⟩ (.bool false)) d cd y/\FrM l c (w1.setCell ⟨q,1,none⟩ (.bool false)) q ⟨m,false⟩ F/\Apart F w (w1.setCell ⟨q,1,none⟩ (.bool false))):=⟨hd,hX⟩
   clear hc hL HW c0 c1 hX hsy hd
   go_wp2
   go_ret
   exact⟨d,cd,y,hy,rfl,HX.out.2.1,HX.out.1,HX.out.2.2⟩
  ·have g0:((P:Int) != 0)=true:=by simp;omega
   have e0:(false||decide (P≠0))=true:=by simp[h0]
   rw[e0]
   clear h0 e0
   go_enter Tryz.func74,Tryz.ntmps74
   go_wp2_with fail
   refine hc.mono ?_
   rintro e w1 ⟨d,cd,y,hy,rfl,hsy,hL,hd⟩
   obtain⟨⟨d1,z1⟩,hX⟩:=HW.out w1 d cd y hL hsy hd true
   have HX:Hid ((∀ g o,d=some ⟨g,o,none⟩->w.heap.size<=g)/\Sees (w1.setCell ⟨q,1,none⟩ (.bool true)) d cd y/\FrM l c (w1.setCell ⟨q,1,none⟩ (.bool true)) q ⟨m,true⟩ F/\Apart F w (w1.setCell ⟨q,1,none⟩ (.bool true))):=⟨hd,hX⟩
   clear hc hL HW c0 c1 hX hsy hd
   go_wp2
   go_ret
   exact⟨d,cd,y,hy,rfl,HX.out.2.1,HX.out.1,HX.out.2.2⟩
 ·rw[Bool.true_or]
  go_enter Tryz.func74,Tryz.ntmps74
  go_wp2_with fail
  refine hc.mono ?_
  rintro e w1 ⟨d,cd,y,hy,rfl,hsy,hL,hd⟩
  obtain⟨⟨d1,z1⟩,hX⟩:=HW.out w1 d cd y hL hsy hd true
  have HX:Hid ((∀ g o,d=some ⟨g,o,none⟩->w.heap.size<=g)/\Sees (w1.setCell ⟨q,1,none⟩ (.bool true)) d cd y/\FrM l c (w1.setCell ⟨q,1,none⟩ (.bool true)) q ⟨m,true⟩ F/\Apart F w (w1.setCell ⟨q,1,none⟩ (.bool true))):=⟨hd,hX⟩
  clear hc hL HW c0 c1 hX hsy hd
  go_wp2
  go_ret
  exact⟨d,cd,y,hy,rfl,HX.out.2.1,HX.out.1,HX.out.2.2⟩
theorem hand_rd (l:List UInt8)(c q:Nat):Hand 73 74 (.pointer (some ⟨q,0,none⟩)) (FrM l c) q (λs _ V=>numN l s V) (λs _ V=>numS l s V) (λs _ n=>lstN l s n) (λs _ n=>lstS l s n) where
 kept:=frm_kept l c
 ei:=λargs w=>by simp[callFunc,Tryz.func73,Tryz.f73]
 ej:=λargs w=>by simp[callFunc,Tryz.func74,Tryz.f74]
 lt:=λs _ V _ hV=>Nat.lt_of_lt_of_le (num_lt2 l s V) (Nat.le_trans (Nat.pow_le_pow_right (by omega) hV) (by decide))
 lt5:=λs _ _=>by have:=num_lt2 l s 5;omega
 lt64:=λs _ V _ hV=>Nat.lt_of_lt_of_le (num_lt2 l s V) (Nat.pow_le_pow_right (n:=2) (i:=V) (j:=64) (by omega) hV)
 num:=λw s F n V hm _ _=>(rnum_ok l c w q s F n V hm).mono λe w' ⟨he,h1,h2⟩=>⟨he,F,h1,h2,λ_ h=>.inl h⟩
 list:=λw s F x cx m n hm _ _ _=>(rlist_ok l c w q s F _ n hm).mono λe w' ⟨d,cd,y,hy,he,h1,h2,h3,h4⟩=>⟨d,cd,y,hy,he,h1,F,h3,h4,λ_ h=>.inl h,λb off e _ hb=>by
  have:=h2 b off e
  have:=(frm_kept l c).lt hm b hb
  omega⟩
theorem reading_ok (w:World)(q:Nat):Calls Tryz.prog 40 #[.pointer (some ⟨q,0,none⟩)] w λe w'=>e=.returned (.agg #[.func (.func 73) #[.pointer (some ⟨q,0,none⟩)] #[],.func (.func 74) #[.pointer (some ⟨q,0,none⟩)] #[]])/\Below w.heap.size w w':=by
 have hmf:∀ (fn:Fn) (first cap:Array Value) (w:World),(Instr.makeFunc fn first cap).run Tryz.prog w=.ok (.func fn first cap) w:=λ_ _ _ _=>rfl
 obtain⟨W,hst,hW,hb⟩:=hand_laid1 w (.func 73) (.func 74) (.pointer (some ⟨q,0,none⟩))
 have HST:Hid ((Instr.storeAt 101 (.pointer (some ⟨w.heap.size,0,none⟩)) (.agg #[.func (.func 73) #[.pointer (some ⟨q,0,none⟩)] #[],.func (.func 74) #[.pointer (some ⟨q,0,none⟩)] #[]])).run Tryz.prog (w.alloc (.cells #[.nilFunc,.nilFunc] 101))=.ok () W):=hst
 have HW:Hid (W.heap[w.heap.size]?=some (.cells #[.func (.func 73) #[.pointer (some ⟨q,0,none⟩)] #[],.func (.func 74) #[.pointer (some ⟨q,0,none⟩)] #[]] 101 (0,0))/\Below w.heap.size w W):=⟨hW,hb⟩
 clear hst hW hb
 go_enter Tryz.func40,Tryz.ntmps40
 go_wp2_with (first|(refine wpList_store_run rfl 101 _ _ rfl _ _ rfl rfl HST.out ?_)|fail)
 refine bodyPost_ret (results_cell_row rfl _ W w.heap.size 101 _ (0,0) _ rfl HW.out.1 Tryz.underlying101 rfl (by kernel_rfl)) rfl ?_
 exact⟨rfl,HW.out.2⟩
end Go.Proofs.YthogohkieiogiaaGreatDoor
