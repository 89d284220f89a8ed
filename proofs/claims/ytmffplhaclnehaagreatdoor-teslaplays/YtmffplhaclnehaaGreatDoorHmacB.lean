/- A helper. -/
import Derived.Test.YtmffplhaclnehaaGreatDoorShaE
import Derived.Test.YtmffplhaclnehaaGreatDoorShaD
namespace Go.Proofs.YtmffplhaclnehaaGreatDoor
set_option maxRecDepth 20000
set_option maxHeartbeats 1600000
open Go.ChangeShapes Go.WideShapes Go.ChangeAt Go.RowKit
def Cs (key:List UInt8)(a:Option Addr):List Value:=gX [] 64 (aJ (uu key)) (.slice a 0 0)
theorem JG (key:List UInt8)(a:Option Addr):GN (Cs key a):=λu hu x=>by
 simp only[Cs,gX,List.mem_cons,List.not_mem_nil,or_false] at hu
 rcases hu with rfl|rfl|rfl|rfl|rfl|rfl|rfl|rfl|rfl|rfl|rfl<;>simp
def uS (w:World)(b:Nat)(key bs:List UInt8)(F:Nat->Prop):Prop:=
 ∃ a2 a, aK    (Cs   key a2) 314 w b (tH  key ++ bs).length (aJ   (tH  key ++ bs)) (.slice a (leftOf (tH  key ++ bs)).length (leftOf (tH  key ++ bs)).length) ∧
   ag w a (leftOf (tH key ++ bs)).length (leftOf (tH key ++ bs)) ∧ (tH key ++ bs).length ≤ 1048576 ∧ F b ∧ (∀ b' off, a = some ⟨b', off, none⟩ → leftOf (tH key ++ bs) ≠ [] → F b') ∧ ∀ k, F k → k < w.heap.size
theorem uS.dig {w:World}{b:Nat}{key bs:List UInt8}{F:Nat->Prop}(h:uS w b key bs F):∃ a2,jM (Cs key a2) 314 w b (tH key++bs):=by
 obtain⟨a2,a,ho,hs,hl,_⟩:=h
 exact⟨a2,hl,a,ho,hs⟩
theorem JH (w:World)(S1 S2:S8)(a1 a2:Option Addr):
  (Instr.build 312 #[(0,.agg (gX [] 64 S1 (.slice a1 0 0)).toArray),(1,.agg (gX [] 64 S2 (.slice a2 0 0)).toArray)]).run Tryz.prog w=.ok (.agg (gX (gX [] 64 S2 (.slice a2 0 0)) 64 S1 (.slice a1 0 0)).toArray) w:=
 run_build w 312 _ _ (by kernel_rfl)
theorem JI (w:World)(S1 S2:S8)(a1 a2:Option Addr):
  (Instr.build 314 #[(0,.agg (gX (gX [] 64 S2 (.slice a2 0 0)) 64 S1 (.slice a1 0 0)).toArray)]).run Tryz.prog w=.ok (.agg (gX (gX [] 64 S2 (.slice a2 0 0)) 64 S1 (.slice a1 0 0)).toArray) w:=
 run_build w 314 _ _ (by kernel_rfl)
theorem QV (w:World)(a:Option Addr)(ca:Nat)(key:List UInt8)(ha:ag w a ca key)(hF:fJ w)(hT:bN w)(hl:key.length<=1048576):
  Calls Tryz.prog 212 #[.slice a key.length ca] w λe w'=>∃ b,e=.returned (.tuple #[.pointer (some ⟨b,0,none⟩),.int .i64 0])/\w.heap.size<=b/\uS w' b key [] (λk=>k=b)/\Below w.heap.size w w':=by
 have HF:Hid (fJ w):=hF
 have HT:Hid (bN w):=hT
 have hfit:=UH w a ca key ha hF hT hl
 obtain⟨C,hC⟩:=ai (bM (dJ key))
 rw[<-hC] at hfit
 have hCs:C.size=64:=by rw[hC,iM,gY]
 have hC1:C.all (·.oneCell')=true:=by rw[hC];exact wZ _
 have HC:Hid (C=bM (dJ key)):=hC
 have HST:Hid (∀ w1:World,(Instr.storeAt 304 (.pointer (some ⟨w1.heap.size,0,none⟩)) (.agg C)).run Tryz.prog (w1.alloc (.cells (bM z64) 304))=.ok () ((w1.alloc (.cells (bM z64) 304)).setRow w1.heap.size C)):=λw1=>
  bB (P:=Tryz.prog) (w1.alloc (.cells (bM z64) 304)) w1.heap.size 304 304 _ C (heap_alloc_new w1 _) (by rw[hCs];kernel_rfl) (by rw[hCs,iM];rfl) hC1
 have Mg:∀ (fn:Fn) (first cap:Array Value) (w:World),(Instr.makeFunc fn first cap).run Tryz.prog w=.ok (.func fn first cap) w:=λ_ _ _ _=>rfl
 clear ha hF hT hC hCs hC1
 go_enter Tryz.func212,Tryz.ntmps212
 go_wp2_with fail
 refine hfit.mono ?_
 rintro e w1 ⟨rfl,hb1⟩
 have Af:=HST.out w1
 have hrow:((w1.alloc (.cells (bM z64) 304)).setRow w1.heap.size C).heap[w1.heap.size]?=some (.cells C 304 (0,0)):=setRow_heap _ _ _ C 304 _ (heap_alloc_new w1 _)
 have hbb:Below w.heap.size w ((w1.alloc (.cells (bM z64) 304)).setRow w1.heap.size C):=below_setRow (hb1.alloc hb1.size _) hb1.size C
 obtain⟨W,hW⟩:=ai ((w1.alloc (.cells (bM z64) 304)).setRow w1.heap.size C)
 rw[<-hW] at Af hrow hbb
 have YS:Hid ((Instr.storeAt 304 (.pointer (some ⟨w1.heap.size,0,none⟩)) (.agg C)).run Tryz.prog (w1.alloc (.cells (bM z64) 304))=.ok () W):=Af
 rw[HC.out] at hrow
 have hg1:=ze W w1.heap.size (dJ key) 54 (gY key) hrow (HF.out.below hbb) (HT.out.below hbb)
 clear hfit Af hW
 go_wp2_with (first|refine ah rfl 304 _ _ rfl _ _ rfl rfl YS.out ?_|fail)
 refine hg1.mono ?_
 rintro e w2 ⟨a1,rfl,hb2⟩
 have lg:Below w.heap.size w w2:=hbb.trans (hb2.mono hbb.size)
 have hrow2:w2.heap[w1.heap.size]?=some (.cells (bM (dJ key)) 304 (0,0)):=by rw[hb2.block _ (Array.getElem?_eq_some_iff.1 hrow).1];exact hrow
 have hg2:=ze w2 w1.heap.size (dJ key) 92 (gY key) hrow2 (HF.out.below lg) (HT.out.below lg)
 clear hg1
 go_wp2_with fail
 refine hg2.mono ?_
 rintro e w3 ⟨a2,rfl,hb3⟩
 have NB:Below w.heap.size w w3:=lg.trans (hb3.mono lg.size)
 obtain⟨S1,hS1⟩:=ai (aJ ((dJ key).map (· ^^^ 54)))
 obtain⟨S2,hS2⟩:=ai (aJ ((dJ key).map (· ^^^ 92)))
 rw[<-hS1,<-hS2]
 have B1:=JH w3 S1 S2 a1 a2
 have B2:=JI w3 S1 S2 a1 a2
 obtain⟨D1,hD1⟩:=ai ((gX [] 64 S1 (.slice a1 0 0)).toArray)
 obtain⟨D2,hD2⟩:=ai ((gX [] 64 S2 (.slice a2 0 0)).toArray)
 obtain⟨D,hD⟩:=ai ((gX (gX [] 64 S2 (.slice a2 0 0)) 64 S1 (.slice a1 0 0)).toArray)
 rw[<-hD1,<-hD2,<-hD] at B1
 rw[<-hD] at B2
 rw[<-hD1,<-hD2]
 have HD:Hid (D=(gX (gX [] 64 S2 (.slice a2 0 0)) 64 S1 (.slice a1 0 0)).toArray):=hD
 have HB1:Hid ((Instr.build 312 #[(0,.agg D1),(1,.agg D2)]).run Tryz.prog w3=.ok (.agg D) w3):=B1
 have HB2:Hid ((Instr.build 314 #[(0,.agg D)]).run Tryz.prog w3=.ok (.agg D) w3):=B2
 have Dw:Hid (S1=aJ ((dJ key).map (· ^^^ 54))):=hS1
 have HS2:Hid (S2=aJ ((dJ key).map (· ^^^ 92))):=hS2
 clear hg2 hD hD1 hD2 B1 B2 hS1 hS2 Mg
 go_wp2_with (first|(refine aB rfl 312 _ rfl [(0,.agg D1),(1,.agg D2)] _ rfl HB1.out ?_)|refine aB rfl 314 _ rfl [(0,.agg D)] _ rfl HB2.out ?_)
 go_ret2
 have hin:S1=aJ (tH key):=Dw.out
 have hout:S2=aJ (uu key):=HS2.out
 have hnil:leftOf (tH key)=[]:=uw _ (eF key _)
 have hlen:(tH key).length=64:=eF key _
 have YT:aK (Cs key a2) 314 (w3.alloc (.cells D 314)) w3.heap.size 64 (aJ (tH key)) (.slice a1 0 0):=
  ⟨by rw[heap_alloc_new,HD.out,hin,hout];rfl,JG key a2⟩
 refine⟨w3.heap.size,rfl,NB.size,⟨a2,a1,?_,?_,?_,rfl,?_,?_⟩,NB.alloc NB.size _⟩
 ·rw[List.append_nil,hnil,hlen];exact YT
 ·rw[List.append_nil,hnil];exact⟨Nat.le_refl _,by simp,λ_=>rfl,λh=>absurd rfl h⟩
 ·rw[List.append_nil,hlen];omega
 ·intro b' off _ h;rw[List.append_nil] at h;exact absurd hnil h
 ·rintro k rfl;simp
theorem Ct (w:World)(b:Nat)(key bs:List UInt8)(F:Nat->Prop)(h:uS w b key bs F)(x:Option Addr)(cx:Nat)(cs:List UInt8)(hx:ag w x cx cs)(hT:bN w)(hfit:64+bs.length+cs.length<=1048576):
  Calls Tryz.prog 225 #[.pointer (some ⟨b,0,none⟩),.slice x cs.length cx] w λe w'=>∃ F',e=.returned (.int .i64 0)/\uS w' b key (bs++cs) F'/\But b w w'/\∀ k,F' k->F k\/w.heap.size<=k:=by
 obtain⟨a2,a,ho,hs,hl,hb,hf,hlt⟩:=h
 have hlen:(tH key).length=64:=eF key _
 have hD:jM (Cs key a2) 314 w b (tH key++bs):=⟨hl,a,ho,hs⟩
 by_cases h0:cs=[]
 ·subst h0
  refine(Cu w b (tH key++bs) hD x cx hx).mono ?_
  rintro e w' ⟨rfl,hD',hB,a',h1,h2⟩
  obtain rfl:=ho.same h1
  rw[List.append_nil]
  exact⟨F,rfl,⟨a2,a,h2,hD.sees hB hs,hl,hb,hf,λk hk=>Nat.lt_of_lt_of_le (hlt k hk) hB.size⟩,hB,λk hk=>.inl hk⟩
 ·refine(EN w b (tH key++bs) hD x cx cs hx hT (by rw[List.length_append,hlen];omega) h0).mono ?_
  rintro e w' ⟨rfl,hD',hB,a',h1,h2⟩
  rw[<-List.length_append,List.append_assoc] at h1
  rw[List.append_assoc] at hD' h2
  obtain⟨a3,ho3,hs3⟩:=hD'.obj
  obtain rfl:=ho3.same h1
  refine⟨λk=>k=b\/(w.heap.size<=k/\k<w'.heap.size),rfl,⟨a2,a3,h1,hs3,hD'.len,.inl rfl,λb' off ha hne=>?_,?_⟩,hB,?_⟩
  ·obtain⟨g,o,hg,hc⟩:=hs3.at' hne
   rw[ha] at hg
   obtain rfl:b'=g:=by simpa using congrArg (λo:Option Addr=>o.map (·.block)) hg
   obtain⟨y,hy⟩:∃ y,(leftOf (tH key++(bs++cs)))[0]?=some y:=by
    cases hq:leftOf (tH key++(bs++cs)) with
    | nil=>exact absurd hq hne
    | cons y _=>exact⟨y,rfl⟩
   exact .inr ⟨h2 b' off ha hne,World.block_lt_of_cell? _ _ (hc 0 y hy)⟩
  ·rintro k (rfl|hk)
   ·exact Nat.lt_of_lt_of_le (hlt _ hb) hB.size
   ·exact hk.2
  ·rintro k (rfl|hk)
   ·exact .inl hb
   ·exact .inr hk.1
theorem JJ (w:World)(b:Nat)(key bs:List UInt8)(F:Nat->Prop)(h:uS w b key bs F)(x:Option Addr)(cx:Nat)(cs:List UInt8)(hx:ag w x cx cs)(hT:bN w)(hfit:64+bs.length+cs.length<=1048576):
  Calls Tryz.prog 213 #[.pointer (some ⟨b,0,none⟩),.slice x cs.length cx] w λe w'=>∃ F',e=.returned (.int .i64 0)/\uS w' b key (bs++cs) F'/\But b w w'/\∀ k,F' k->F k\/w.heap.size<=k:=by
 have hw:=Ct w b key bs F h x cx cs hx hT hfit
 clear h hx hT
 go_enter Tryz.func213,Tryz.ntmps213
 go_wp2_with fail
 refine hw.mono ?_
 rintro e w' ⟨F',rfl,h1,h2,h3⟩
 clear hw
 go_wp2
 go_ret
 exact⟨F',rfl,h1,h2,h3⟩
theorem NC (w:World)(b:Nat)(key bs:List UInt8)(F:Nat->Prop)(h:uS w b key bs F)(hT:bN w):
  Calls Tryz.prog 214 #[.pointer (some ⟨b,0,none⟩)] w λe w'=>∃ d cd r,Hid (r=gI key bs)/\e=.returned (.tuple #[.slice d r.length cd,.int .i64 0])/\ag w' d cd r/\Below w.heap.size w w'/\w'.ownsRow w.heap.size 5 1 (.slice d r.length cd) r.length (r.map cellOf):=by
 obtain⟨a2,a,ho,hs,hl,hb,hf,hlt⟩:=h
 have hD:jM (Cs key a2) 314 w b (tH key++bs):=⟨hl,a,ho,hs⟩
 have HT:Hid (bN w):=hT
 have HO:Hid (w.rangeAt b 11 (Cs key a2)):=λj v hv=>ho.cellAt (11+j) (by rw[Nat.add_comm];exact hv)
 have hbl:=ho.lt
 have hsum:=QW w b (tH key++bs) hD hT
 clear ho hs hl hb hf hlt hD hT
 go_enter Tryz.func214,Tryz.ntmps214
 go_wp2_with fail
 refine hsum.mono ?_
 rintro e w1 ⟨d1,c1,r1,hr1,rfl,hs1,hb1⟩
 have hlen:(uu key).length=64:=eF key _
 have hnil:leftOf (uu key)=[]:=uw _ hlen
 have hrl:r1.length=32:=by rw[hr1.out];exact lX _
 have Bh:Hid (r1.length=32):=hrl
 have hcp:=QX w1 b 11 (uu key) (by rw[hlen];omega) a2 (by
   intro j v hv
   rw[hnil,hlen] at hv
   have h1:=HO.out j v hv
   rw[hb1.cell (p:=⟨b,11+j,none⟩) hbl];exact h1) (by rw[hnil];exact⟨Nat.le_refl _,by simp,λ_=>rfl,λh=>absurd rfl h⟩)
 clear hsum hlen hnil hrl
 go_wp2_with fail
 refine hcp.mono ?_
 rintro e w2 ⟨rfl,hD2,hb2⟩
 have ND:Below w.heap.size w w2:=hb1.trans (hb2.mono hb1.size)
 have hwr:=uy w2 w1.heap.size (uu key) hD2 d1 c1 r1 (hs1.below hb2) (HT.out.below ND) (by rw[Bh.out,show (uu key).length=64 from eF key _];omega)
 clear hcp
 go_wp2_with fail
 refine hwr.mono ?_
 rintro e w3 ⟨rfl,hD3,iB⟩
 obtain⟨n,s,v,ho2⟩:=hD2.obj'
 have xg:Below w.heap.size w w3:=iB.below ND hb1.size
 have hend:=Ay w3 w1.heap.size (uu key++r1) hD3 ((HT.out.below ND).but ho2 iB)
 clear hwr ho2 hD2 hD3
 go_wp2_with fail
 refine hend.mono ?_
 rintro e w4 ⟨d,cd,r,hr,rfl,hs4,hb4,kT⟩
 clear hend
 go_wp2
 go_ret2
 exact⟨d,cd,r,hr.out.trans (by rw[hr1.out];rfl),rfl,hs4,xg.trans (hb4.mono xg.size),kT.mono xg.size⟩
theorem GQ (w:World)(a:Option Addr)(ca:Nat)(key:List UInt8)(b:Option Addr)(cb:Nat)(bs:List UInt8)(hF:fJ w)(hT:bN w)(ha:ag w a ca key)(hb:ag w b cb bs)(hk:key.length<=1048576)(hl:64+bs.length<=1048576):
  Calls Tryz.prog 189 #[.slice a key.length ca,.slice b bs.length cb] w λe w'=>∃ d cd r,Hid (r=gI key bs)/\e=.returned (.tuple #[.slice d r.length cd,.int .i64 0])/\ag w' d cd r/\Below w.heap.size w w'/\w'.ownsRow w.heap.size 5 1 (.slice d r.length cd) r.length (r.map cellOf):=by
 have HT:Hid (bN w):=hT
 have HB:Hid (ag w b cb bs):=hb
 have hnew:=QV w a ca key ha hF hT hk
 clear hF hT ha hb
 go_enter Tryz.func189,Tryz.ntmps189
 go_wp2_with fail
 refine hnew.mono ?_
 rintro e w1 ⟨m,rfl,hm,hM1,hb1⟩
 have hw:=JJ w1 m key [] _ hM1 b cb bs (HB.out.below hb1) (HT.out.below hb1) (by simp;omega)
 rw[List.nil_append] at hw
 clear hnew
 go_wp2_with fail
 refine hw.mono ?_
 rintro e w2 ⟨F2,rfl,hM2,Az,_⟩
 have hb2:Below w.heap.size w w2:=Az.below hb1 hm
 obtain⟨a2,hD1⟩:=hM1.dig
 obtain⟨n,s,v,ho1⟩:=hD1.obj'
 have hsum:=NC w2 m key bs F2 hM2 ((HT.out.below hb1).but ho1 Az)
 clear hw ho1 hD1 hM1 hM2
 go_wp2_with fail
 refine hsum.mono ?_
 rintro e w3 ⟨d,cd,r,hr,rfl,hs3,hb3,ho3⟩
 clear hsum
 go_wp2
 go_ret2
 exact⟨d,cd,r,hr,rfl,hs3,hb2.trans (hb3.mono hb2.size),ho3.mono hb2.size⟩
end Go.Proofs.YtmffplhaclnehaaGreatDoor
