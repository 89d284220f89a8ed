/- A helper. -/
import Derived.Test.YtmffplhaclnehaaGreatDoorFrameA
import Derived.Test.YtmffplhaclnehaaGreatDoorBitsE
namespace Go.Proofs.YtmffplhaclnehaaGreatDoor
set_option maxRecDepth 20000
set_option maxHeartbeats 1600000
open Go.ChangeShapes Go.WideShapes Go.ChangeAt Go.RowKit
theorem bX (bs:List Bool)(n V:Nat)(hV:V<=64)(hn:n<2^V)(hl:bs.length+V<=8192):jF bs n (V:Int)=bs++az n V:=by
 have h0:qX bs.length n (V:Int)=0:=by
  unfold qX
  rw[if_neg (by simp only[Int.toNat_natCast];omega),if_neg (by simp only[Int.toNat_natCast];omega)]
 unfold jF
 rw[if_pos h0,Int.toNat_natCast]
theorem jH (bs:List Bool)(l:List UInt8)(h1:l.length<=1024)(hl:bs.length+8*l.length<=8192):bV bs l=bs++bitsOf l:=by
 have h0:gp bs.length l.length=0:=by unfold gp;rw[if_neg (by omega)]
 unfold bV
 rw[if_pos h0]
theorem kV (F:Fr)(hn:F.n<18446744073709551616)(hr:bH F=true):gy F/\F.body.length<=16/\(F.k=1\/F.k=2\/F.k=3)/\(F.k=1\/F.k=3->F.key.length=16):=by
 unfold bH at hr
 simp only[Bool.and_eq_true,decide_eq_true_eq] at hr
 obtain⟨⟨hN,hB⟩,hK⟩:=hr
 obtain⟨hf,ht,he,hs,hrr,hm,hv,hi⟩:=(ql F).1 hN
 have hk:(F.k=1\/F.k=2\/F.k=3)/\(F.k=1\/F.k=3->F.key.length=16):=by
  by_cases k1:F.k=1
  ·rw[if_pos k1] at hK;simp only[decide_eq_true_eq] at hK;exact⟨.inl k1,λ_=>hK.1⟩
  ·rw[if_neg k1] at hK
   by_cases k2:F.k=2
   ·exact⟨.inr (.inl k2),λh=>by omega⟩
   ·rw[if_neg k2] at hK
    by_cases k3:F.k=3
    ·rw[if_pos k3] at hK;simp only[decide_eq_true_eq] at hK;exact⟨.inr (.inr k3),λ_=>hK.2.1⟩
    ·rw[if_neg k3] at hK;cases hK
 exact⟨⟨by omega,by omega,by omega,by omega,by omega,by omega,hn,by omega,by omega,by omega⟩,hB,hk⟩
theorem rD (F:Fr)(hn:F.n<18446744073709551616)(hr:bH F=true):
  nE (λ_ n _=>n) (λbs n V=>jF bs n (V:Int)) (λ_ l _=>l) (λbs l _=>bV bs l) [] F=(F,aU F)/\(aU F).length<=333:=by
 obtain⟨hI,hB,hk3,hkey⟩:=kV F hn hr
 unfold bH at hr
 simp only[Bool.and_eq_true,decide_eq_true_eq] at hr
 obtain⟨⟨hN,_⟩,_⟩:=hr
 obtain⟨hf,ht,he,hs,hrr,hm,hv,hi⟩:=(ql F).1 hN
 have tk:((F.k.toNat:Nat):Int)=F.k:=by omega
 have tf:((F.f.toNat:Nat):Int)=F.f:=by omega
 have tt:((F.t.toNat:Nat):Int)=F.t:=by omega
 have te:((F.e.toNat:Nat):Int)=F.e:=by omega
 have ts:((F.s.toNat:Nat):Int)=F.s:=by omega
 have tr:((F.r.toNat:Nat):Int)=F.r:=by omega
 have tm:((F.m.toNat:Nat):Int)=F.m:=by omega
 have tv:((F.v.toNat:Nat):Int)=F.v:=by omega
 have ti:((F.i.toNat:Nat):Int)=F.i:=by omega
 have e1:=bX [] F.k.toNat 4 (by omega) (by omega) (by simp)
 have e2:=bX ([]++az F.k.toNat 4) F.f.toNat 4 (by omega) (by omega) (by simp[ak])
 obtain⟨B,hBB⟩:=ai ([]++az F.k.toNat 4++az F.f.toNat 4)
 have hBl:B.length=8:=by rw[hBB];simp[ak]
 have hcg:nE (λ_ n _=>n) (λbs n V=>jF bs n (V:Int)) (λ_ l _=>l) (λbs l _=>bV bs l) [] F=if F.k=1 then sM (λ_ n _=>n) (λbs n V=>jF bs n (V:Int)) (λ_ l _=>l) (λbs l _=>bV bs l) B F else if F.k=2 then nD (λ_ n _=>n) (λbs n V=>jF bs n (V:Int)) B F else if F.k=3 then sK (λ_ n _=>n) (λbs n V=>jF bs n (V:Int)) (λ_ l _=>l) (λbs l _=>bV bs l) B F else (F,B):=by
  unfold nE
  simp only[tk,tf]
  rw[hBB,<-e2,<-e1]
 rw[hcg]
 have hcb:aU F=B++fV F:=by rw[hBB];rfl
 rw[hcb]
 clear hcb hcg hBB e1 e2
 by_cases k1:F.k=1
 ·have K9:=hkey (.inl k1)
  rw[if_pos k1]
  unfold fV
  rw[if_pos k1]
  have a1:=bX B F.e.toNat 16 (by omega) (by omega) (by omega)
  have a2:=bX (B++az F.e.toNat 16) F.r.toNat 24 (by omega) (by omega) (by simp[ak];omega)
  have a3:=bX (B++az F.e.toNat 16++az F.r.toNat 24) F.v.toNat 8 (by omega) (by omega) (by simp[ak];omega)
  have a4:=bX (B++az F.e.toNat 16++az F.r.toNat 24++az F.v.toNat 8) F.i.toNat 16 (by omega) (by omega) (by simp[ak];omega)
  have a5:=jH (B++az F.e.toNat 16++az F.r.toNat 24++az F.v.toNat 8++az F.i.toNat 16) F.key (by omega) (by simp[ak];omega)
  have a6:=bX (B++az F.e.toNat 16++az F.r.toNat 24++az F.v.toNat 8++az F.i.toNat 16++bitsOf F.key) F.body.length 5 (by omega) (by omega) (by simp[ak,aC];omega)
  have a7:=jH (B++az F.e.toNat 16++az F.r.toNat 24++az F.v.toNat 8++az F.i.toNat 16++bitsOf F.key++az F.body.length 5) F.body (by omega) (by simp[ak,aC];omega)
  constructor
  ·unfold sM oP
   simp only[a1,a2,a3,a4,a5,a6,a7,te,tr,tv,ti]
   simp only[List.append_assoc]
  ·simp only[oP,List.length_append,ak,aC];omega
 ·rw[if_neg k1]
  by_cases k2:F.k=2
  ·rw[if_pos k2]
   unfold fV
   rw[if_neg k1,if_pos k2]
   have a1:=bX B F.t.toNat 4 (by omega) (by omega) (by omega)
   have a2:=bX (B++az F.t.toNat 4) F.n 64 (by omega) (by omega) (by simp[ak];omega)
   constructor
   ·unfold nD iy
    simp only[a1,a2,tt]
    simp only[List.append_assoc]
   ·simp only[iy,List.length_append,ak];omega
  ·have k3:F.k=3:=by omega
   have K9:=hkey (.inr k3)
   rw[if_neg k2,if_pos k3]
   unfold fV
   rw[if_neg k1,if_neg k2]
   have a1:=bX B F.t.toNat 4 (by omega) (by omega) (by omega)
   have a2:=bX (B++az F.t.toNat 4) F.n 64 (by omega) (by omega) (by simp[ak];omega)
   have a3:=bX (B++az F.t.toNat 4++az F.n 64) F.m.toNat 48 (by omega) (by omega) (by simp[ak];omega)
   have a4:=bX (B++az F.t.toNat 4++az F.n 64++az F.m.toNat 48) F.e.toNat 16 (by omega) (by omega) (by simp[ak];omega)
   have a5:=bX (B++az F.t.toNat 4++az F.n 64++az F.m.toNat 48++az F.e.toNat 16) F.s.toNat 24 (by omega) (by omega) (by simp[ak];omega)
   have a6:=bX (B++az F.t.toNat 4++az F.n 64++az F.m.toNat 48++az F.e.toNat 16++az F.s.toNat 24) F.i.toNat 16 (by omega) (by omega) (by simp[ak];omega)
   have a7:=jH (B++az F.t.toNat 4++az F.n 64++az F.m.toNat 48++az F.e.toNat 16++az F.s.toNat 24++az F.i.toNat 16) F.key (by omega) (by simp[ak];omega)
   constructor
   ·unfold sK nD oO iy
    simp only[a1,a2,a3,a4,a5,a6,a7,tt,tm,te,ts,ti]
    simp only[List.append_assoc]
   ·simp only[oO,iy,List.length_append,ak,aC];omega
theorem Cc (F:Fr)(hn:F.n<18446744073709551616)(hr:dw F=true):
  uj (λ_ n _=>n) (λbs n V=>jF bs n (V:Int)) (λ_ l _=>l) (λbs l _=>bV bs l) [] F=(F,aU F++bitsOf F.tag)/\(aU F++bitsOf F.tag).length<=397:=by
 unfold dw at hr
 simp only[Bool.and_eq_true,decide_eq_true_eq] at hr
 obtain⟨h1,h2⟩:=rD F hn hr.1
 have hT:=hr.2
 have a:=jH (aU F) F.tag (by omega) (by omega)
 constructor
 ·unfold uj
  rw[h1]
  simp only[a]
 ·rw[List.length_append,aC];omega
def Ce (w:World)(b:Nat)(bs:List Bool)(F:Nat->Prop):Prop:=fH 261 [] w b bs F/\bs.length<=8192
theorem pz:Kept Ce where
 lt:=λh=>(yH 261 []).lt h.1
 keep:=λh hk=>⟨(yH 261 []).keep h.1 hk,h.2⟩
def Lc (b:Nat):Value:=.agg #[.pointer (some ⟨b,0,none⟩)]
theorem QF (w:World)(b:Nat)(bs:List Bool)(F:Nat->Prop)(n V:Nat)(hm:Ce w b bs F)(hn:n<18446744073709551616):
  Calls Tryz.prog 191 #[Lc b,.int .u64 (n:Int),.int .i64 (V:Int)] w λe w'=>e=.returned (.int .u64 (n:Int))/\Left Ce w F b (jF bs n V) w':=by
 have hm1:=pz.alloc hm (.cells #[.pointer (some ⟨b,0,none⟩)] 263)
 have hc:=Qe (w.alloc (.cells #[.pointer (some ⟨b,0,none⟩)] 263)) b bs F n V hm1.1 hn hm1.2
 have hl:=LM bs n (V:Int) hm.2
 have HL:Hid (∀ w1,Left (fH 261 []) (w.alloc (.cells #[.pointer (some ⟨b,0,none⟩)] 263)) F b (jF bs n V) w1->Left Ce w F b (jF bs n V) w1):=λw1 h=>by
  obtain⟨F',h1,h2,h3⟩:=h
  exact Left.pg ⟨F',⟨h1,hl⟩,h2,h3⟩
 obtain⟨P,hP⟩:=ai (qX bs.length n (V:Int))
 rw[<-hP] at hc
 clear hm hm1 hl hP
 unfold Lc
 go_enter Tryz.func191,Tryz.ntmps191
 go_wp2_with fail
 refine hc.mono ?_
 rintro e w1 ⟨rfl,hL⟩
 have HX:Hid (Left Ce w F b (jF bs n V) w1):=HL.out w1 hL
 clear hc hL HL
 go_wp2
 go_ret
 exact⟨rfl,HX.out⟩
theorem M4 (w:World)(b:Nat)(bs:List Bool)(F:Nat->Prop)(x:Option Addr)(cx:Nat)(l:List UInt8)(n:Int)(hm:Ce w b bs F)(hs:ag w x cx l)(hcl:Clear F x l):
  Calls Tryz.prog 192 #[Lc b,.slice x l.length cx,.int .i64 n] w λe w'=>e=.returned (.slice x l.length cx)/\ag w' x cx l/\∃ F',Ce w' b (bV bs l) F'/\Apart F w w'/\(∀ k,F' k->F k\/w.heap.size<=k)/\Clear F' x l:=by
 have hm1:=pz.alloc hm (.cells #[.pointer (some ⟨b,0,none⟩)] 263)
 have hc:=IZ (w.alloc (.cells #[.pointer (some ⟨b,0,none⟩)] 263)) b bs F x cx l hm1.1 (hs.below (Go.Joins.below_alloc1 _ _)) hcl hm1.2
 have hl:=DZ bs l hm.2
 have HL:Hid (∀ w1,Left (fH 261 []) (w.alloc (.cells #[.pointer (some ⟨b,0,none⟩)] 263)) F b (bV bs l) w1->ag w1 x cx l/\∃ F',Ce w1 b (bV bs l) F'/\Apart F w w1/\(∀ k,F' k->F k\/w.heap.size<=k)/\Clear F' x l):=λw1 h=>by
  obtain⟨F',h1,h2,h3⟩:=h
  obtain⟨F'',k1,k2,k3⟩:Left Ce w F b (bV bs l) w1:=Left.pg ⟨F',⟨h1,hl⟩,h2,h3⟩
  refine⟨k2.sees hs hcl,F'',k1,k2,k3,λg off e hne hg=>?_⟩
  rcases k3 g hg with h|h
  ·exact hcl g off e hne h
  ·have:=hs.lt g off e hne;omega
 obtain⟨P,hP⟩:=ai (gp bs.length l.length)
 rw[<-hP] at hc
 clear hm hm1 hl hP hs hcl
 unfold Lc
 go_enter Tryz.func192,Tryz.ntmps192
 go_wp2_with fail
 refine hc.mono ?_
 rintro e w1 ⟨rfl,hL⟩
 have HX:=HL.out w1 hL
 have HXX:Hid (ag w1 x cx l/\∃ F',Ce w1 b (bV bs l) F'/\Apart F w w1/\(∀ k,F' k->F k\/w.heap.size<=k)/\Clear F' x l):=HX
 clear hc hL HL HX
 go_wp2
 go_ret
 exact⟨rfl,HXX.out⟩
theorem GA (b:Nat):Hand 191 192 (Lc b) Ce b (λ_ n _=>n) (λbs n V=>jF bs n (V:Int)) (λ_ l _=>l) (λbs l _=>bV bs l) where
 kept:=pz
 ei:=λargs w=>by simp[callFunc,Tryz.func191,Tryz.f191]
 ej:=λargs w=>by simp[callFunc,Tryz.func192,Tryz.f192]
 lt:=λ_ n _ h _=>h
 WG:=λ_ n h=>by omega
 Un:=λ_ n _ h _=>h
 num:=λw s F n V hm hn _=>QF w b s F n V hm hn
 list:=λw s F x cx l n hm hs hc _=>(M4 w b s F x cx l n hm hs hc).mono λe w' ⟨he,h1,h2⟩=>⟨x,cx,l,rfl,he,h1,h2⟩
theorem GD (f1 f2:Fn)(r:Value):(#[Value.func f1 #[r] #[],Value.func f2 #[r] #[]]:Array Value).all (·.oneCell')=true:=
 all_oneCell_toArray (cs:=[Value.func f1 #[r] #[],Value.func f2 #[r] #[]]) (by
  intro v hv
  simp only[List.mem_cons,List.not_mem_nil,or_false] at hv
  rcases hv with rfl|rfl<;>rfl)
theorem Jr (w:World)(o:Obj)(f1 f2:Fn)(r:Value):∃ W,(Instr.storeAt 121 (.pointer (some ⟨w.heap.size,0,none⟩)) (.agg #[.func f1 #[r] #[],.func f2 #[r] #[]])).run Tryz.prog ((w.alloc (.cells #[.nilFunc,.nilFunc] 121)).alloc o)=.ok () W /\
  W.heap[w.heap.size]?=some (.cells #[.func f1 #[r] #[],.func f2 #[r] #[]] 121 (0,0))/\Below w.heap.size w W:=by
 have h1:(w.alloc (.cells #[.nilFunc,.nilFunc] 121)).heap[w.heap.size]?=some (.cells #[.nilFunc,.nilFunc] 121 (0,0)):=heap_alloc_new _ _
 have h2:((w.alloc (.cells #[.nilFunc,.nilFunc] 121)).alloc o).heap[w.heap.size]?=some (.cells #[.nilFunc,.nilFunc] 121 (0,0)):=by
  rw[(Go.Joins.below_alloc1 (w.alloc (.cells #[.nilFunc,.nilFunc] 121)) o).block _ (by simp)];exact h1
 exact⟨_,bB _ _ 121 121 _ _ h2 (by kernel_rfl) rfl (GD f1 f2 r),setRow_heap _ _ _ _ 121 _ h2,below_setRow (Go.Joins.below_alloc2 _ _ _) (Nat.le_refl _) _⟩
theorem Ep (w:World)(f1 f2:Fn)(r:Value):∃ W,(Instr.storeAt 121 (.pointer (some ⟨w.heap.size,0,none⟩)) (.agg #[.func f1 #[r] #[],.func f2 #[r] #[]])).run Tryz.prog (w.alloc (.cells #[.nilFunc,.nilFunc] 121))=.ok () W /\
  W.heap[w.heap.size]?=some (.cells #[.func f1 #[r] #[],.func f2 #[r] #[]] 121 (0,0))/\Below w.heap.size w W:=by
 have h1:(w.alloc (.cells #[.nilFunc,.nilFunc] 121)).heap[w.heap.size]?=some (.cells #[.nilFunc,.nilFunc] 121 (0,0)):=heap_alloc_new _ _
 exact⟨_,bB _ _ 121 121 _ _ h1 (by kernel_rfl) rfl (GD f1 f2 r),setRow_heap _ _ _ _ 121 _ h1,below_setRow (Go.Joins.below_alloc1 _ _) (Nat.le_refl _) _⟩
theorem wO (w:World)(b:Nat):Calls Tryz.prog 148 #[.pointer (some ⟨b,0,none⟩)] w λe w'=>e=.returned (.agg #[.func (.func 191) #[Lc b] #[],.func (.func 192) #[Lc b] #[]])/\Below w.heap.size w w':=by
 have Mg:∀ (fn:Fn) (first cap:Array Value) (w:World),(Instr.makeFunc fn first cap).run Tryz.prog w=.ok (.func fn first cap) w:=λ_ _ _ _=>rfl
 obtain⟨W,hst,hW,hb⟩:=Jr w (.cells #[.pointer (some ⟨b,0,none⟩)] 263) (.func 191) (.func 192) (.agg #[.pointer (some ⟨b,0,none⟩)])
 unfold Lc
 have HST:Hid ((Instr.storeAt 121 (.pointer (some ⟨w.heap.size,0,none⟩)) (.agg #[.func (.func 191) #[.agg #[.pointer (some ⟨b,0,none⟩)]] #[],.func (.func 192) #[.agg #[.pointer (some ⟨b,0,none⟩)]] #[]])).run Tryz.prog ((w.alloc (.cells #[.nilFunc,.nilFunc] 121)).alloc (.cells #[.pointer (some ⟨b,0,none⟩)] 263))=.ok () W):=hst
 have HW:Hid (W.heap[w.heap.size]?=some (.cells #[.func (.func 191) #[.agg #[.pointer (some ⟨b,0,none⟩)]] #[],.func (.func 192) #[.agg #[.pointer (some ⟨b,0,none⟩)]] #[]] 121 (0,0))/\Below w.heap.size w W):=⟨hW,hb⟩
 clear hst hW hb
 go_enter Tryz.func148,Tryz.ntmps148
 go_wp2_with (first|(refine ah rfl 121 _ _ rfl _ _ rfl rfl HST.out ?_)|fail)
 refine bodyPost_ret (results_cell_row rfl _ W w.heap.size 121 _ (0,0) _ rfl HW.out.1 Tryz.underlying121 rfl (by kernel_rfl)) rfl ?_
 exact⟨rfl,HW.out.2⟩
def wP (l:List UInt8)(c:Nat)(w:World)(q:Nat)(s:Rs)(F:Nat->Prop):Prop:=
 w.heap[q]?=some (.cells #[.pointer (some ⟨c,0,none⟩),.bool s.miss] 117 (0,0))/\s.at_<=8*l.length/\l.length<=140737488355328/\∃ F',rR l w c s.at_ F'/\¬ F' q/\(∀ k,F' k->F k)/\F q/\∀ k,F k->k<w.heap.size
theorem pE (l:List UInt8)(c:Nat):Kept (wP l c) where
 lt:=λ⟨_,_,_,_,_,_,_,_,h⟩=>h
 keep:=λ{w w' b s F} ⟨h1,h2,hl,F',h3,h4,h5,h6,h7⟩ hk=>⟨(hk b h6).trans h1,h2,hl,F',(lV l).keep h3 (λk hF=>hk k (h5 k hF)),h4,h5,h6,λk hF=>by
  have h8:w'.heap[k]?=some (w.heap[k]'(h7 k hF)):=by rw[hk k hF];simp[h7 k hF]
  exact(Array.getElem?_eq_some_iff.1 h8).1⟩
theorem wP.cells {l:List UInt8}{c:Nat}{w:World}{q:Nat}{s:Rs}{F:Nat->Prop}(h:wP l c w q s F):w.cell? ⟨q,0,none⟩=some (.pointer (some ⟨c,0,none⟩))/\w.cell? ⟨q,1,none⟩=some (.bool s.miss)/\w.frozen? ⟨q,1,none⟩=false:=
 ⟨cell_of_row _ _ 0 _ _ _ h.1,cell_of_row _ _ 1 _ _ _ h.1,frozen_of_row _ _ 1 _ _ h.1⟩
theorem wP.went {l:List UInt8}{c:Nat}{w w1:World}{q:Nat}{s:Rs}{F F':Nat->Prop}(h:wP l c w q s F)(hn:¬ F' q)(hs:∀ k,F' k->F k)(m:Nat)(hm:m<=8*l.length)(hL:vY (rR l) w F' c m w1)(t:Bool):
  (w1.cell? ⟨q,1,none⟩=some (.bool s.miss)/\w1.frozen? ⟨q,1,none⟩=false)/\wP l c (w1.setCell ⟨q,1,none⟩ (.bool t)) q ⟨m,t⟩ F/\Apart F w (w1.setCell ⟨q,1,none⟩ (.bool t)):=by
 obtain⟨h1,h2,hl,_,_,_,_,h6,h7⟩:=h
 obtain⟨hr,ha⟩:=hL
 have h8:w1.heap[q]?=some (.cells #[.pointer (some ⟨c,0,none⟩),.bool s.miss] 117 (0,0)):=by rw[ha.block q (h7 q h6) hn];exact h1
 refine⟨⟨cell_of_row _ _ 1 _ _ _ h8,frozen_of_row _ _ 1 _ _ h8⟩,⟨by rw[heap_setCell_same _ _ _ _ _ _ h8];rfl,hm,hl,F',(lV l).keep hr (λk hk=>heap_setCell_other _ _ _ _ (λe=>hn (by have e2:k=q:=e;rw[<-e2];exact hk))),hn,hs,h6,λk hk=>?_⟩,?_⟩
 ·have:=h7 k hk;have:=ha.size;simp;omega
 ·exact(ha.mono hs).setCell (.inl h6) 1 _
theorem Js (l:List UInt8)(at_:Nat)(n:Int)(h:at_<=8*l.length):dV l at_ n<=8*l.length:=by
 unfold dV
 by_cases h0:fU (8*l.length-at_) n=0
 ·rw[if_pos h0]
  unfold fU at h0
  by_cases h1:n<0\/1024<n
  ·rw[if_pos h1] at h0;cases h0
  ·rw[if_neg h1] at h0
   by_cases h2:((8*l.length-at_:Nat):Int)<8*n
   ·rw[if_pos h2] at h0;cases h0
   ·omega
 ·rw[if_neg h0];exact h
theorem QG (l:List UInt8)(c:Nat)(w:World)(q:Nat)(s:Rs)(F:Nat->Prop)(x:Int)(V:Nat)(hm:wP l c w q s F):
  Calls Tryz.prog 109 #[.pointer (some ⟨q,0,none⟩),.int .u64 x,.int .i64 (V:Int)] w λe w'=>e=.returned (.int .u64 ((bq l s V:Nat):Int))/\wP l c w' q (bE l s V) F/\Apart F w w':=by
 obtain⟨c0,c1,f1⟩:=hm.cells
 have hm0:=hm
 obtain⟨_,hle,hl,F',hr,hn,hs,_,_⟩:=hm
 have hc:=L6 l w c s.at_ F' hr hl (V:Int) hle
 have hat:=BB l s.at_ (V:Int) hle
 unfold bq bE
 obtain⟨N,hN⟩:=ai (nN l s.at_ (V:Int))
 obtain⟨m,hm1⟩:=ai (iL l s.at_ (V:Int))
 obtain⟨P,hP⟩:=ai (kQ (8*l.length-s.at_) (V:Int))
 rw[<-hN,<-hm1,<-hP]
 rw[<-hN,<-hm1,<-hP] at hc
 rw[<-hm1] at hat
 have HW:Hid (∀ w1,vY (rR l) w F' c m w1->∀ t,(w1.cell? ⟨q,1,none⟩=some (.bool s.miss)/\w1.frozen? ⟨q,1,none⟩=false)/\wP l c (w1.setCell ⟨q,1,none⟩ (.bool t)) q ⟨m,t⟩ F/\Apart F w (w1.setCell ⟨q,1,none⟩ (.bool t))):=λw1 hL t=>hm0.went hn hs m hat hL t
 generalize s.miss=b at *
 clear hm0 hr hn hs hat hN hm1 hP hle hl f1
 cases b
 ·by_cases h0:P=0
  ·have g0:((P:Int) != 0)=false:=by simp[h0]
   have e0:(false||decide (P≠0))=false:=by simp[h0]
   rw[e0]
   clear h0 e0
   go_enter Tryz.func109,Tryz.ntmps109
   go_wp2_with fail
   refine hc.mono ?_
   rintro e w1 ⟨rfl,hL⟩
   obtain⟨⟨d1,z1⟩,hX⟩:=HW.out w1 hL false
   have HX:Hid (wP l c (w1.setCell ⟨q,1,none⟩ (.bool false)) q ⟨m,false⟩ F/\Apart F w (w1.setCell ⟨q,1,none⟩ (.bool false))):=hX
   clear hc hL HW c0 c1 hX
   go_wp2
   go_ret
   exact⟨rfl,HX.out⟩
  ·have g0:((P:Int) != 0)=true:=by simp;omega
   have e0:(false||decide (P≠0))=true:=by simp[h0]
   rw[e0]
   clear h0 e0
   go_enter Tryz.func109,Tryz.ntmps109
   go_wp2_with fail
   refine hc.mono ?_
   rintro e w1 ⟨rfl,hL⟩
   obtain⟨⟨d1,z1⟩,hX⟩:=HW.out w1 hL true
   have HX:Hid (wP l c (w1.setCell ⟨q,1,none⟩ (.bool true)) q ⟨m,true⟩ F/\Apart F w (w1.setCell ⟨q,1,none⟩ (.bool true))):=hX
   clear hc hL HW c0 c1 hX
   go_wp2
   go_ret
   exact⟨rfl,HX.out⟩
 ·rw[Bool.true_or]
  go_enter Tryz.func109,Tryz.ntmps109
  go_wp2_with fail
  refine hc.mono ?_
  rintro e w1 ⟨rfl,hL⟩
  obtain⟨⟨d1,z1⟩,hX⟩:=HW.out w1 hL true
  have HX:Hid (wP l c (w1.setCell ⟨q,1,none⟩ (.bool true)) q ⟨m,true⟩ F/\Apart F w (w1.setCell ⟨q,1,none⟩ (.bool true))):=hX
  clear hc hL HW c0 c1 hX
  go_wp2
  go_ret
  exact⟨rfl,HX.out⟩
theorem M5 (l:List UInt8)(c:Nat)(w:World)(q:Nat)(s:Rs)(F:Nat->Prop)(x:Value)(n:Nat)(hm:wP l c w q s F):
  Calls Tryz.prog 110 #[.pointer (some ⟨q,0,none⟩),x,.int .i64 (n:Int)] w λe w'=>∃ d cd y,Hid (y=iZ l s n)/\e=.returned (.slice d y.length cd)/\ag w' d cd y/\(∀ g o,d=some ⟨g,o,none⟩->w.heap.size<=g)/\wP l c w' q (eX l s n) F/\Apart F w w':=by
 obtain⟨c0,c1,f1⟩:=hm.cells
 have hm0:=hm
 obtain⟨_,hle,hl,F',hr,hn,hs,hFq,WO⟩:=hm
 have hc:=zX l w c s.at_ F' hr hl (n:Int) hle
 have hat:=Js l s.at_ (n:Int) hle
 unfold iZ eX
 obtain⟨N,hN⟩:=ai (jd l s.at_ (n:Int))
 obtain⟨m,hm1⟩:=ai (dV l s.at_ (n:Int))
 obtain⟨P,hP⟩:=ai (fU (8*l.length-s.at_) (n:Int))
 rw[<-hN,<-hm1,<-hP]
 rw[<-hN,<-hm1,<-hP] at hc
 rw[<-hm1] at hat
 have HW:Hid (∀ w1 (d:Option Addr) (cd:Nat) (y:List UInt8),vY (rR l) w F' c m w1->ag w1 d cd y->(∀ g o,d=some ⟨g,o,none⟩->w.heap.size<=g)->∀ t,(w1.cell? ⟨q,1,none⟩=some (.bool s.miss)/\w1.frozen? ⟨q,1,none⟩=false)/\ag (w1.setCell ⟨q,1,none⟩ (.bool t)) d cd y/\wP l c (w1.setCell ⟨q,1,none⟩ (.bool t)) q ⟨m,t⟩ F/\Apart F w (w1.setCell ⟨q,1,none⟩ (.bool t))):=λw1 d cd y hL hy hd t=>by
  obtain⟨h1,h2⟩:=hm0.went hn hs m hat hL t
  refine⟨h1,hy.set _ (λb off e _=>?_),h2⟩
  have:=hd b off e
  have:=WO q hFq
  omega
 generalize s.miss=b at *
 clear hm0 hr hn hs hat hN hm1 hP hle hl f1 hFq WO
 cases b
 ·by_cases h0:P=0
  ·have g0:((P:Int) != 0)=false:=by simp[h0]
   have e0:(false||decide (P≠0))=false:=by simp[h0]
   rw[e0]
   clear h0 e0
   go_enter Tryz.func110,Tryz.ntmps110
   go_wp2_with fail
   refine hc.mono ?_
   rintro e w1 ⟨d,cd,y,hy,rfl,hsy,hL,hd⟩
   obtain⟨⟨d1,z1⟩,hX⟩:=HW.out w1 d cd y hL hsy hd false
   have HX:Hid ((∀ g o,d=some ⟨g,o,none⟩->w.heap.size<=g)/\ag (w1.setCell ⟨q,1,none⟩ (.bool false)) d cd y/\wP l c (w1.setCell ⟨q,1,none⟩ (.bool false)) q ⟨m,false⟩ F/\Apart F w (w1.setCell ⟨q,1,none⟩ (.bool false))):=⟨hd,hX⟩
   clear hc hL HW c0 c1 hX hsy hd
   go_wp2
   go_ret
   exact⟨d,cd,y,hy,rfl,HX.out.2.1,HX.out.1,HX.out.2.2⟩
  ·have g0:((P:Int) != 0)=true:=by simp;omega
   have e0:(false||decide (P≠0))=true:=by simp[h0]
   rw[e0]
   clear h0 e0
   go_enter Tryz.func110,Tryz.ntmps110
   go_wp2_with fail
   refine hc.mono ?_
   rintro e w1 ⟨d,cd,y,hy,rfl,hsy,hL,hd⟩
   obtain⟨⟨d1,z1⟩,hX⟩:=HW.out w1 d cd y hL hsy hd true
   have HX:Hid ((∀ g o,d=some ⟨g,o,none⟩->w.heap.size<=g)/\ag (w1.setCell ⟨q,1,none⟩ (.bool true)) d cd y/\wP l c (w1.setCell ⟨q,1,none⟩ (.bool true)) q ⟨m,true⟩ F/\Apart F w (w1.setCell ⟨q,1,none⟩ (.bool true))):=⟨hd,hX⟩
   clear hc hL HW c0 c1 hX hsy hd
   go_wp2
   go_ret
   exact⟨d,cd,y,hy,rfl,HX.out.2.1,HX.out.1,HX.out.2.2⟩
 ·rw[Bool.true_or]
  go_enter Tryz.func110,Tryz.ntmps110
  go_wp2_with fail
  refine hc.mono ?_
  rintro e w1 ⟨d,cd,y,hy,rfl,hsy,hL,hd⟩
  obtain⟨⟨d1,z1⟩,hX⟩:=HW.out w1 d cd y hL hsy hd true
  have HX:Hid ((∀ g o,d=some ⟨g,o,none⟩->w.heap.size<=g)/\ag (w1.setCell ⟨q,1,none⟩ (.bool true)) d cd y/\wP l c (w1.setCell ⟨q,1,none⟩ (.bool true)) q ⟨m,true⟩ F/\Apart F w (w1.setCell ⟨q,1,none⟩ (.bool true))):=⟨hd,hX⟩
  clear hc hL HW c0 c1 hX hsy hd
  go_wp2
  go_ret
  exact⟨d,cd,y,hy,rfl,HX.out.2.1,HX.out.1,HX.out.2.2⟩
theorem QH (l:List UInt8)(c q:Nat):Hand 109 110 (.pointer (some ⟨q,0,none⟩)) (wP l c) q (λs _ V=>bq l s V) (λs _ V=>bE l s V) (λs _ n=>iZ l s n) (λs _ n=>eX l s n) where
 kept:=pE l c
 ei:=λargs w=>by simp[callFunc,Tryz.func109,Tryz.f109]
 ej:=λargs w=>by simp[callFunc,Tryz.func110,Tryz.f110]
 lt:=λs _ V _ hV=>Nat.lt_of_lt_of_le (dI l s V) (Nat.le_trans (Nat.pow_le_pow_right (by omega) hV) (by decide))
 WG:=λs _ _=>by have:=dI l s 5;omega
 Un:=λs _ V _ hV=>Nat.lt_of_lt_of_le (dI l s V) (Nat.pow_le_pow_right (n:=2) (i:=V) (j:=64) (by omega) hV)
 num:=λw s F n V hm _ _=>(QG l c w q s F n V hm).mono λe w' ⟨he,h1,h2⟩=>⟨he,F,h1,h2,λ_ h=>.inl h⟩
 list:=λw s F x cx m n hm _ _ _=>(M5 l c w q s F _ n hm).mono λe w' ⟨d,cd,y,hy,he,h1,h2,h3,h4⟩=>⟨d,cd,y,hy,he,h1,F,h3,h4,λ_ h=>.inl h,λb off e _ hb=>by
  have:=h2 b off e
  have:=(pE l c).lt hm b hb
  omega⟩
theorem Er (w:World)(q:Nat):Calls Tryz.prog 59 #[.pointer (some ⟨q,0,none⟩)] w λe w'=>e=.returned (.agg #[.func (.func 109) #[.pointer (some ⟨q,0,none⟩)] #[],.func (.func 110) #[.pointer (some ⟨q,0,none⟩)] #[]])/\Below w.heap.size w w':=by
 have Mg:∀ (fn:Fn) (first cap:Array Value) (w:World),(Instr.makeFunc fn first cap).run Tryz.prog w=.ok (.func fn first cap) w:=λ_ _ _ _=>rfl
 obtain⟨W,hst,hW,hb⟩:=Ep w (.func 109) (.func 110) (.pointer (some ⟨q,0,none⟩))
 have HST:Hid ((Instr.storeAt 121 (.pointer (some ⟨w.heap.size,0,none⟩)) (.agg #[.func (.func 109) #[.pointer (some ⟨q,0,none⟩)] #[],.func (.func 110) #[.pointer (some ⟨q,0,none⟩)] #[]])).run Tryz.prog (w.alloc (.cells #[.nilFunc,.nilFunc] 121))=.ok () W):=hst
 have HW:Hid (W.heap[w.heap.size]?=some (.cells #[.func (.func 109) #[.pointer (some ⟨q,0,none⟩)] #[],.func (.func 110) #[.pointer (some ⟨q,0,none⟩)] #[]] 121 (0,0))/\Below w.heap.size w W):=⟨hW,hb⟩
 clear hst hW hb
 go_enter Tryz.func59,Tryz.ntmps59
 go_wp2_with (first|(refine ah rfl 121 _ _ rfl _ _ rfl rfl HST.out ?_)|fail)
 refine bodyPost_ret (results_cell_row rfl _ W w.heap.size 121 _ (0,0) _ rfl HW.out.1 Tryz.underlying121 rfl (by kernel_rfl)) rfl ?_
 exact⟨rfl,HW.out.2⟩
end Go.Proofs.YtmffplhaclnehaaGreatDoor
