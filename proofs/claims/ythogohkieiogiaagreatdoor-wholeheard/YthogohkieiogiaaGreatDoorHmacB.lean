/-
  A tag under way in memory; the contract of hmac.New.

  The contracts of a tag's Write and Sum, and of hmac.Of: what later layers stand on.
-/
import Derived.Test.YthogohkieiogiaaGreatDoorShaE
import Derived.Test.YthogohkieiogiaaGreatDoorShaD
namespace Go.Proofs.YthogohkieiogiaaGreatDoor
set_option maxRecDepth 20000
set_option maxHeartbeats 1600000
open Go.ChangeShapes Go.WideShapes Go.ChangeAt Go.RowKit
def outR (key:List UInt8)(a:Option Addr):List Value:=digL [] 64 (stOf (outK key)) (.slice a 0 0)
theorem outR_none (key:List UInt8)(a:Option Addr):NoBytes (outR key a):=λu hu x=>by
 simp only[outR,digL,List.mem_cons,List.not_mem_nil,or_false] at hu
 rcases hu with rfl|rfl|rfl|rfl|rfl|rfl|rfl|rfl|rfl|rfl|rfl<;>simp
def MacAt (w:World)(b:Nat)(key bs:List UInt8)(F:Nat->Prop):Prop:=
 ∃ a2 a, ObjAt (outR key a2) 284 w b (inK key ++ bs).length (stOf (inK key ++ bs)) (.slice a (leftOf (inK key ++ bs)).length (leftOf (inK key ++ bs)).length) ∧
   Sees w a (leftOf (inK key ++ bs)).length (leftOf (inK key ++ bs)) ∧ (inK key ++ bs).length ≤ 1048576 ∧ F b ∧ (∀ b' off, a = some ⟨b', off, none⟩ → leftOf (inK key ++ bs) ≠ [] → F b') ∧ ∀ k, F k → k < w.heap.size
theorem MacAt.dig {w:World}{b:Nat}{key bs:List UInt8}{F:Nat->Prop}(h:MacAt w b key bs F):∃ a2,Dig (outR key a2) 284 w b (inK key++bs):=by
 obtain⟨a2,a,ho,hs,hl,_⟩:=h
 exact⟨a2,hl,a,ho,hs⟩
theorem build_two (w:World)(S1 S2:S8)(a1 a2:Option Addr):
  (Instr.build 282 #[(0,.agg (digL [] 64 S1 (.slice a1 0 0)).toArray),(1,.agg (digL [] 64 S2 (.slice a2 0 0)).toArray)]).run Tryz.prog w=.ok (.agg (digL (digL [] 64 S2 (.slice a2 0 0)) 64 S1 (.slice a1 0 0)).toArray) w:=
 run_build w 282 _ _ (by kernel_rfl)
theorem build_mac (w:World)(S1 S2:S8)(a1 a2:Option Addr):
  (Instr.build 284 #[(0,.agg (digL (digL [] 64 S2 (.slice a2 0 0)) 64 S1 (.slice a1 0 0)).toArray)]).run Tryz.prog w=.ok (.agg (digL (digL [] 64 S2 (.slice a2 0 0)) 64 S1 (.slice a1 0 0)).toArray) w:=
 run_build w 284 _ _ (by kernel_rfl)
theorem hnew_ok (w:World)(a:Option Addr)(ca:Nat)(key:List UInt8)(ha:Sees w a ca key)(hF:FTab w)(hT:KTab w)(hl:key.length<=1048576):
  Calls Tryz.prog 174 #[.slice a key.length ca] w λe w'=>∃ b,e=.returned (.tuple #[.pointer (some ⟨b,0,none⟩),.int .i64 0])/\w.heap.size<=b/\MacAt w' b key [] (λk=>k=b)/\Below w.heap.size w w':=by
 have HF:Hid (FTab w):=hF
 have HT:Hid (KTab w):=hT
 have hfit:=fit_ok w a ca key ha hF hT hl
 obtain⟨C,hC⟩:∃ C,C=brow (fillK key):=⟨_,rfl⟩
 rw[<-hC] at hfit
 have hCs:C.size=64:=by rw[hC,brow_size,fillK_length]
 have hC1:C.all (·.oneCell')=true:=by rw[hC];exact brow_one _
 have HC:Hid (C=brow (fillK key)):=hC
 have HST:Hid (∀ w1:World,(Instr.storeAt 272 (.pointer (some ⟨w1.heap.size,0,none⟩)) (.agg C)).run Tryz.prog (w1.alloc (.cells (brow z64) 272))=.ok () ((w1.alloc (.cells (brow z64) 272)).setRow w1.heap.size C)):=λw1=>
  storeAt_row (P:=Tryz.prog) (w1.alloc (.cells (brow z64) 272)) w1.heap.size 272 272 _ C (heap_alloc_new w1 _) (by rw[hCs];kernel_rfl) (by rw[hCs,brow_size];rfl) hC1
 have hmf:∀ (fn:Fn) (first cap:Array Value) (w:World),(Instr.makeFunc fn first cap).run Tryz.prog w=.ok (.func fn first cap) w:=λ_ _ _ _=>rfl
 clear ha hF hT hC hCs hC1
 go_enter Tryz.func174,Tryz.ntmps174
 go_wp2_with fail
 refine hfit.mono ?_
 rintro e w1 ⟨rfl,hb1⟩
 have hst1:=HST.out w1
 have hrow:((w1.alloc (.cells (brow z64) 272)).setRow w1.heap.size C).heap[w1.heap.size]?=some (.cells C 272 (0,0)):=setRow_heap _ _ _ C 272 _ (heap_alloc_new w1 _)
 have hbb:Below w.heap.size w ((w1.alloc (.cells (brow z64) 272)).setRow w1.heap.size C):=below_setRow (hb1.alloc hb1.size _) hb1.size C
 obtain⟨W,hW⟩:∃ W,W=(w1.alloc (.cells (brow z64) 272)).setRow w1.heap.size C:=⟨_,rfl⟩
 rw[<-hW] at hst1 hrow hbb
 have HST1:Hid ((Instr.storeAt 272 (.pointer (some ⟨w1.heap.size,0,none⟩)) (.agg C)).run Tryz.prog (w1.alloc (.cells (brow z64) 272))=.ok () W):=hst1
 rw[HC.out] at hrow
 have hg1:=begun_any W w1.heap.size (fillK key) 54 (fillK_length key) hrow (HF.out.below hbb) (HT.out.below hbb)
 clear hfit hst1 hW
 go_wp2_with (first|refine wpList_store_run rfl 272 _ _ rfl _ _ rfl rfl HST1.out ?_|fail)
 refine hg1.mono ?_
 rintro e w2 ⟨a1,rfl,hb2⟩
 have hbel2:Below w.heap.size w w2:=hbb.trans (hb2.mono hbb.size)
 have hrow2:w2.heap[w1.heap.size]?=some (.cells (brow (fillK key)) 272 (0,0)):=by rw[hb2.block _ (Array.getElem?_eq_some_iff.1 hrow).1];exact hrow
 have hg2:=begun_any w2 w1.heap.size (fillK key) 92 (fillK_length key) hrow2 (HF.out.below hbel2) (HT.out.below hbel2)
 clear hg1
 go_wp2_with fail
 refine hg2.mono ?_
 rintro e w3 ⟨a2,rfl,hb3⟩
 have hbel3:Below w.heap.size w w3:=hbel2.trans (hb3.mono hbel2.size)
 obtain⟨S1,hS1⟩:∃ S1,S1=stOf ((fillK key).map (· ^^^ 54)):=⟨_,rfl⟩
 obtain⟨S2,hS2⟩:∃ S2,S2=stOf ((fillK key).map (· ^^^ 92)):=⟨_,rfl⟩
 rw[<-hS1,<-hS2]
 have B1:=build_two w3 S1 S2 a1 a2
 have B2:=build_mac w3 S1 S2 a1 a2
 obtain⟨D1,hD1⟩:∃ D1,D1=(digL [] 64 S1 (.slice a1 0 0)).toArray:=⟨_,rfl⟩
 obtain⟨D2,hD2⟩:∃ D2,D2=(digL [] 64 S2 (.slice a2 0 0)).toArray:=⟨_,rfl⟩
 obtain⟨D,hD⟩:∃ D,D=(digL (digL [] 64 S2 (.slice a2 0 0)) 64 S1 (.slice a1 0 0)).toArray:=⟨_,rfl⟩
 rw[<-hD1,<-hD2,<-hD] at B1
 rw[<-hD] at B2
 rw[<-hD1,<-hD2]
 have HD:Hid (D=(digL (digL [] 64 S2 (.slice a2 0 0)) 64 S1 (.slice a1 0 0)).toArray):=hD
 have HB1:Hid ((Instr.build 282 #[(0,.agg D1),(1,.agg D2)]).run Tryz.prog w3=.ok (.agg D) w3):=B1
 have HB2:Hid ((Instr.build 284 #[(0,.agg D)]).run Tryz.prog w3=.ok (.agg D) w3):=B2
 have HS1:Hid (S1=stOf ((fillK key).map (· ^^^ 54))):=hS1
 have HS2:Hid (S2=stOf ((fillK key).map (· ^^^ 92))):=hS2
 clear hg2 hD hD1 hD2 B1 B2 hS1 hS2 hmf
 go_wp2_with (first|(refine wpList_build_run rfl 282 _ rfl [(0,.agg D1),(1,.agg D2)] _ rfl HB1.out ?_)|refine wpList_build_run rfl 284 _ rfl [(0,.agg D)] _ rfl HB2.out ?_)
 go_ret2
 have hin:S1=stOf (inK key):=HS1.out
 have hout:S2=stOf (outK key):=HS2.out
 have hnil:leftOf (inK key)=[]:=leftOf_64 _ (padK_length key _)
 have hlen:(inK key).length=64:=padK_length key _
 have hobj:ObjAt (outR key a2) 284 (w3.alloc (.cells D 284)) w3.heap.size 64 (stOf (inK key)) (.slice a1 0 0):=
  ⟨by rw[heap_alloc_new,HD.out,hin,hout];rfl,outR_none key a2⟩
 refine⟨w3.heap.size,rfl,hbel3.size,⟨a2,a1,?_,?_,?_,rfl,?_,?_⟩,hbel3.alloc hbel3.size _⟩
 ·rw[List.append_nil,hnil,hlen];exact hobj
 ·rw[List.append_nil,hnil];exact⟨Nat.le_refl _,by simp,λ_=>rfl,λh=>absurd rfl h⟩
 ·rw[List.append_nil,hlen];omega
 ·intro b' off _ h;rw[List.append_nil] at h;exact absurd hnil h
 ·rintro k rfl;simp
theorem inner_write (w:World)(b:Nat)(key bs:List UInt8)(F:Nat->Prop)(h:MacAt w b key bs F)(x:Option Addr)(cx:Nat)(cs:List UInt8)(hx:Sees w x cx cs)(hT:KTab w)(hfit:64+bs.length+cs.length<=1048576):
  Calls Tryz.prog 193 #[.pointer (some ⟨b,0,none⟩),.slice x cs.length cx] w λe w'=>∃ F',e=.returned (.int .i64 0)/\MacAt w' b key (bs++cs) F'/\But b w w'/\∀ k,F' k->F k\/w.heap.size<=k:=by
 obtain⟨a2,a,ho,hs,hl,hb,hf,hlt⟩:=h
 have hlen:(inK key).length=64:=padK_length key _
 have hD:Dig (outR key a2) 284 w b (inK key++bs):=⟨hl,a,ho,hs⟩
 by_cases h0:cs=[]
 ·subst h0
  refine(write2_zero w b (inK key++bs) hD x cx hx).mono ?_
  rintro e w' ⟨rfl,hD',hB,a',h1,h2⟩
  obtain rfl:=ho.same h1
  rw[List.append_nil]
  exact⟨F,rfl,⟨a2,a,h2,hD.sees hB hs,hl,hb,hf,λk hk=>Nat.lt_of_lt_of_le (hlt k hk) hB.size⟩,hB,λk hk=>.inl hk⟩
 ·refine(write2_any w b (inK key++bs) hD x cx cs hx hT (by rw[List.length_append,hlen];omega) h0).mono ?_
  rintro e w' ⟨rfl,hD',hB,a',h1,h2⟩
  rw[<-List.length_append,List.append_assoc] at h1
  rw[List.append_assoc] at hD' h2
  obtain⟨a3,ho3,hs3⟩:=hD'.obj
  obtain rfl:=ho3.same h1
  refine⟨λk=>k=b\/(w.heap.size<=k/\k<w'.heap.size),rfl,⟨a2,a3,h1,hs3,hD'.len,.inl rfl,λb' off ha hne=>?_,?_⟩,hB,?_⟩
  ·obtain⟨g,o,hg,hc⟩:=hs3.at' hne
   rw[ha] at hg
   obtain rfl:b'=g:=by simpa using congrArg (λo:Option Addr=>o.map (·.block)) hg
   obtain⟨y,hy⟩:∃ y,(leftOf (inK key++(bs++cs)))[0]?=some y:=by
    cases hq:leftOf (inK key++(bs++cs)) with
    | nil=>exact absurd hq hne
    | cons y _=>exact⟨y,rfl⟩
   exact .inr ⟨h2 b' off ha hne,World.block_lt_of_cell? _ _ (hc 0 y hy)⟩
  ·rintro k (rfl|hk)
   ·exact Nat.lt_of_lt_of_le (hlt _ hb) hB.size
   ·exact hk.2
  ·rintro k (rfl|hk)
   ·exact .inl hb
   ·exact .inr hk.1
theorem hwrite_ok (w:World)(b:Nat)(key bs:List UInt8)(F:Nat->Prop)(h:MacAt w b key bs F)(x:Option Addr)(cx:Nat)(cs:List UInt8)(hx:Sees w x cx cs)(hT:KTab w)(hfit:64+bs.length+cs.length<=1048576):
  Calls Tryz.prog 175 #[.pointer (some ⟨b,0,none⟩),.slice x cs.length cx] w λe w'=>∃ F',e=.returned (.int .i64 0)/\MacAt w' b key (bs++cs) F'/\But b w w'/\∀ k,F' k->F k\/w.heap.size<=k:=by
 have hw:=inner_write w b key bs F h x cx cs hx hT hfit
 clear h hx hT
 go_enter Tryz.func175,Tryz.ntmps175
 go_wp2_with fail
 refine hw.mono ?_
 rintro e w' ⟨F',rfl,h1,h2,h3⟩
 clear hw
 go_wp2
 go_ret
 exact⟨F',rfl,h1,h2,h3⟩
theorem hsum_own (w:World)(b:Nat)(key bs:List UInt8)(F:Nat->Prop)(h:MacAt w b key bs F)(hT:KTab w):
  Calls Tryz.prog 176 #[.pointer (some ⟨b,0,none⟩)] w λe w'=>∃ d cd r,Hid (r=hmacL key bs)/\e=.returned (.tuple #[.slice d r.length cd,.int .i64 0])/\Sees w' d cd r/\Below w.heap.size w w'/\w'.ownsRow w.heap.size 5 1 (.slice d r.length cd) r.length (r.map cellOf):=by
 obtain⟨a2,a,ho,hs,hl,hb,hf,hlt⟩:=h
 have hD:Dig (outR key a2) 284 w b (inK key++bs):=⟨hl,a,ho,hs⟩
 have HT:Hid (KTab w):=hT
 have HO:Hid (w.rangeAt b 11 (outR key a2)):=λj v hv=>ho.cellAt (11+j) (by rw[Nat.add_comm];exact hv)
 have hbl:=ho.lt
 have hsum:=sum_yes w b (inK key++bs) hD hT
 clear ho hs hl hb hf hlt hD hT
 go_enter Tryz.func176,Tryz.ntmps176
 go_wp2_with fail
 refine hsum.mono ?_
 rintro e w1 ⟨d1,c1,r1,hr1,rfl,hs1,hb1⟩
 have hlen:(outK key).length=64:=padK_length key _
 have hnil:leftOf (outK key)=[]:=leftOf_64 _ hlen
 have hrl:r1.length=32:=by rw[hr1.out];exact shaL_length _
 have HRL:Hid (r1.length=32):=hrl
 have hcp:=copy_at w1 b 11 (outK key) (by rw[hlen];omega) a2 (by
   intro j v hv
   rw[hnil,hlen] at hv
   have h1:=HO.out j v hv
   rw[hb1.cell (p:=⟨b,11+j,none⟩) hbl];exact h1) (by rw[hnil];exact⟨Nat.le_refl _,by simp,λ_=>rfl,λh=>absurd rfl h⟩)
 clear hsum hlen hnil hrl
 go_wp2_with fail
 refine hcp.mono ?_
 rintro e w2 ⟨rfl,hD2,hb2⟩
 have bel2:Below w.heap.size w w2:=hb1.trans (hb2.mono hb1.size)
 have hwr:=write_any w2 w1.heap.size (outK key) hD2 d1 c1 r1 (hs1.below hb2) (HT.out.below bel2) (by rw[HRL.out,show (outK key).length=64 from padK_length key _];omega)
 clear hcp
 go_wp2_with fail
 refine hwr.mono ?_
 rintro e w3 ⟨rfl,hD3,hbt3⟩
 obtain⟨n,s,v,ho2⟩:=hD2.obj'
 have bel3:Below w.heap.size w w3:=hbt3.below bel2 hb1.size
 have hend:=sum_own w3 w1.heap.size (outK key++r1) hD3 ((HT.out.below bel2).but ho2 hbt3)
 clear hwr ho2 hD2 hD3
 go_wp2_with fail
 refine hend.mono ?_
 rintro e w4 ⟨d,cd,r,hr,rfl,hs4,hb4,ho4⟩
 clear hend
 go_wp2
 go_ret2
 exact⟨d,cd,r,hr.out.trans (by rw[hr1.out];rfl),rfl,hs4,bel3.trans (hb4.mono bel3.size),ho4.mono bel3.size⟩
theorem hof_own (w:World)(a:Option Addr)(ca:Nat)(key:List UInt8)(b:Option Addr)(cb:Nat)(bs:List UInt8)(hF:FTab w)(hT:KTab w)(ha:Sees w a ca key)(hb:Sees w b cb bs)(hk:key.length<=1048576)(hl:64+bs.length<=1048576):
  Calls Tryz.prog 147 #[.slice a key.length ca,.slice b bs.length cb] w λe w'=>∃ d cd r,Hid (r=hmacL key bs)/\e=.returned (.tuple #[.slice d r.length cd,.int .i64 0])/\Sees w' d cd r/\Below w.heap.size w w'/\w'.ownsRow w.heap.size 5 1 (.slice d r.length cd) r.length (r.map cellOf):=by
 have HT:Hid (KTab w):=hT
 have HB:Hid (Sees w b cb bs):=hb
 have hnew:=hnew_ok w a ca key ha hF hT hk
 clear hF hT ha hb
 go_enter Tryz.func147,Tryz.ntmps147
 go_wp2_with fail
 refine hnew.mono ?_
 rintro e w1 ⟨m,rfl,hm,hM1,hb1⟩
 have hw:=hwrite_ok w1 m key [] _ hM1 b cb bs (HB.out.below hb1) (HT.out.below hb1) (by simp;omega)
 rw[List.nil_append] at hw
 clear hnew
 go_wp2_with fail
 refine hw.mono ?_
 rintro e w2 ⟨F2,rfl,hM2,hbt2,_⟩
 have hb2:Below w.heap.size w w2:=hbt2.below hb1 hm
 obtain⟨a2,hD1⟩:=hM1.dig
 obtain⟨n,s,v,ho1⟩:=hD1.obj'
 have hsum:=hsum_own w2 m key bs F2 hM2 ((HT.out.below hb1).but ho1 hbt2)
 clear hw ho1 hD1 hM1 hM2
 go_wp2_with fail
 refine hsum.mono ?_
 rintro e w3 ⟨d,cd,r,hr,rfl,hs3,hb3,ho3⟩
 clear hsum
 go_wp2
 go_ret2
 exact⟨d,cd,r,hr,rfl,hs3,hb2.trans (hb3.mono hb2.size),ho3.mono hb2.size⟩
end Go.Proofs.YthogohkieiogiaaGreatDoor
