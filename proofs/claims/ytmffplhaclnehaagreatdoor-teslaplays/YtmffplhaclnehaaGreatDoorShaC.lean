/- A helper. -/
import Derived.Test.YtmffplhaclnehaaGreatDoorShaB
namespace Go.Proofs.YtmffplhaclnehaaGreatDoor
set_option maxRecDepth 20000
set_option maxHeartbeats 1600000
open Go.ChangeShapes Go.WideShapes Go.ChangeAt Go.RowKit
set_option linter.unusedVariables false
variable {R:List Value} {ty:TypeId}
theorem bN.but {w w':World}{b n:Nat}{s:S8}{v:Value}(h:bN w)(ho:aK R ty w b n s v)(hb:But b w w'):bN w':=λt ht=>by
 have hne:2≠b:=by
  rintro rfl
  have h1:=h 0 (by omega)
  rw[ho.made] at h1
  cases h1
 rw[World.cell?_of_block (w:=w) (a:=⟨2,t,none⟩) (hb.block 2 (World.block_lt_of_cell? w _ (h t ht)) hne)]
 exact h t ht
theorem FB (w:World)(b:Nat)(bs:List UInt8)(h:jM R ty w b bs)(xb xo cx:Nat)(cs p r:List UInt8)(hx:ag w (some ⟨xb,xo,none⟩) cx cs)(hT:bN w)(hfit:bs.length+cs.length<=1048576)(hc:cs=p++r)(hp:(leftOf bs).length+p.length=64)(hr:0<r.length):
  Calls Tryz.prog 225 #[.pointer (some ⟨b,0,none⟩),.slice (some ⟨xb,xo,none⟩) cs.length cx] w λe w'=>e=.returned (.int .i64 0)/\jM R ty w' b (bs++cs)/\But b w w':=by
 obtain⟨a,ho,hs⟩:=h.obj
 have h1:=ho.made
 have h2:=ho.size
 have h10:=ho.left
 have hfc:=hx.fits
 have hrc:=hx.room
 unfold maxLen at hrc
 have hcl:cs.length=p.length+r.length:=by rw[hc,List.length_append]
 have hxp:ag w (some ⟨xb,xo,none⟩) cx p:=by have:=hx.take p.length;rwa [hc,List.take_left] at this
 have om:=hx.cut p.length (by omega)
 rw[show cs.drop p.length=r from by rw[hc,List.drop_left]] at om
 have HX:=hx
 obtain⟨L,hL⟩:=ai (leftOf bs)
 have Gm:L.length<64:=by rw[hL,aL];omega
 rw[<-hL] at ho hs h10 hp
 have HO:Hid (aK R ty w b bs.length (aJ bs) (.slice a L.length L.length)):=ho
 have HL:Hid (L=leftOf bs):=hL
 have HC:Hid (cs=p++r):=hc
 have hd:decide ((1048576:Int)-(bs.length:Int)<(cs.length:Int))=false:=by simp;omega
 obtain⟨d1,mW,w1,hrun,hs1,hb1,_⟩:=bQ w.drew a (some ⟨xb,xo,none⟩) cx L p (hs.drewN 1) (hxp.drewN 1) (by omega)
 have HR:Hid ((Builtin.append_ #[24,24] 24 #[.slice a L.length L.length,.slice (some ⟨xb,xo,none⟩) p.length cx]).run Tryz.prog w.drew=.ok (.slice d1 (L.length+p.length) mW) w1):=hrun
 have HB1:Hid (Below w.heap.size w w1):=(Below.refl _ _).drew.trans hb1
 have g0:(0:Int)<=(p.length:Int):=Int.natCast_nonneg _
 have g1:(p.length:Int)<=(cx:Int):=by omega
 have g2:(p.length:Int)<=(cs.length:Int):=by omega
 have g3:(cs.length:Int)<=(cx:Int):=by omega
 have Ju:Hid (cs.length=p.length+r.length):=hcl
 have hsub:cs.length-p.length=r.length:=by omega
 have hmin:(64:Int)-(L.length:Int)=(p.length:Int):=by omega
 have hne:¬ (cx=p.length):=by omega
 have glt:(p.length:Int)<(cs.length:Int):=by omega
 rw[if_neg hne] at om
 clear ho hL h hc hrun hb1 hs hcl hx hxp HX
 go_enter Tryz.func225,Tryz.ntmps225
 go_wp2_with fail
 refine(bC w b h1).mono ?_
 rintro e w0 ⟨rfl,hw0⟩
 rw[hw0]
 clear hw0 w0
 go_wp2
 go_region_held3 (λw'=>w'.cell? ⟨b,10,none⟩=some (.slice a L.length L.length))
  (first|go_keep|(rw[(HB1.out).cell (p:=⟨b,10,none⟩) (World.block_lt_of_cell? _ _ h10)];exact h10))
  (refine aH rfl _ _ 24 rfl _ _ _ rfl rfl HR.out ?_)
 have ho1:=HO.out.below HB1.out
 have hK1:=hT.below HB1.out
 have mO:Hid ((Instr.loadAt 307 (.pointer (some ⟨b,2,none⟩))).run Tryz.prog w1=.ok (.agg (aJ bs).cells) w1):=ho1.loads
 have pW:=om.below HB1.out
 have h64:(L++p).length=64:=by rw[List.length_append];exact hp
 have hcall:=oh w1 (aJ bs) (iJ bs) d1 mW (L++p) hs1 h64 hK1
 have xM:=HB1.out
 go_wp2_with (refine aA rfl 307 _ rfl _ _ rfl mO.out ?_)
 refine hcall.mono ?_
 rintro e w2 ⟨rfl,hb2⟩
 have ho2:=ho1.below hb2
 obtain⟨w3,pX,ho3,iB⟩:=ho2.stores (cz (aJ bs) (L++p))
 have lI:Hid ((Instr.storeAt 307 (.pointer (some ⟨b,2,none⟩)) (.agg (cz (aJ bs) (L++p)).cells)).run Tryz.prog w2=.ok () w3):=pX
 have lJ:Hid ((Instr.loadAt 307 (.pointer (some ⟨b,2,none⟩))).run Tryz.prog w3=.ok (.agg (cz (aJ bs) (L++p)).cells) w3):=ho3.loads
 have pY:=(pW.below hb2).but ho2 (by intro x;simp) iB
 have hK3:=(hK1.below hb2).but ho2 iB
 have dO:=lH w3 (cz (aJ bs) (L++p)) (gQ _ _) _ _ r pY hK3
 have qa:Hid (But b w w3):=(But.of_below xM).trans ((But.of_below hb2).trans iB)
 clear hcall pX iB hb2 ho2 ho1 hK1 pW mO hK3 pY hs1 HR
 obtain⟨T3,pJ⟩:∃ T,T=cz (aJ bs) (L++p):=⟨_,rfl⟩
 rw[<-pJ] at ho3 dO lI lJ ⊢
 have HT3:Hid (T3=cz (aJ bs) (L++p)):=pJ
 clear pJ
 go_wp2_with (first|refine ah rfl 307 _ _ rfl _ _ rfl rfl lI.out ?_|refine aA rfl 307 _ rfl _ _ rfl lJ.out ?_)
 refine dO.mono ?_
 rintro e w4 ⟨d4,OG,l,hl,rfl,hs4,hb4⟩
 have kT:=ho3.below hb4
 obtain⟨T5,xN⟩:∃ T,T=dF T3 r (r.length/64):=⟨_,rfl⟩
 rw[<-xN]
 obtain⟨w5,qc,qM,lK⟩:=kT.stores T5
 have qd:Hid ((Instr.storeAt 307 (.pointer (some ⟨b,2,none⟩)) (.agg T5.cells)).run Tryz.prog w4=.ok () w5):=qc
 have hs5:=hs4.but kT (by intro x;simp) lK
 have OH:Hid (T5=dF T3 r (r.length/64)):=xN
 have nJ:Hid (But b w w5):=qa.out.trans ((But.of_below hb4).trans lK)
 have hll:l.length<=140737488355328:=by rw[hl.out,List.length_drop];omega
 have gT:=qA w5 d4 OG l hs5 hll
 clear dO lI lJ xN qc lK hb4 kT ho3 hs4 hs5 qa
 go_wp2_with (refine ah rfl 307 _ _ rfl _ _ rfl rfl qd.out ?_)
 refine gT.mono ?_
 rintro e w6 ⟨d6,XZ,rfl,hs6,hb6⟩
 have lQ:=qM.below hb6
 have xO:Hid (But b w w6):=nJ.out.trans (But.of_below hb6)
 clear gT qd hb6 qM nJ
 have hfl:=hs6.fits
 have hrl:=hs6.room
 unfold maxLen at hrl
 have c1:=lQ.size
 have c10:=lQ.left
 have f10:=lQ.frozen 10
 have f1:=lQ.frozen 1
 have C9:Hid (aK R ty w6 b bs.length T5 (.slice a L.length L.length)):=lQ
 clear lQ h1 h2 h10
 go_wp2
 go_ret
 obtain⟨hst,hlf⟩:=kH bs cs p r HC.out (by rw[List.length_append,<-HL.out];exact hp)
 have hleft:leftOf (bs++cs)=l:=by rw[hlf,hl.out]
 have iW:aJ (bs++cs)=T5:=by rw[hst,OH.out,HT3.out,HL.out]
 have hO:=(C9.out.iE (.slice d6 l.length l.length)).iD (bs++cs).length
 have hB:But b w6 ((w6.setCell ⟨b,10,none⟩ (.slice d6 l.length l.length)).setCell ⟨b,1,none⟩ (.int .i64 ((bs++cs).length:Int))):=((But.refl b w6).setCell 10 _).setCell 1 _
 have hS:ag w6 d6 l.length l:=⟨Nat.le_refl _,by have:=hs6.room;have:=hs6.fits;omega,λhn=>by have:=hs6.bare hn;have:=hs6.fits;omega,hs6.at'⟩
 have hS2:=hS.but C9.out (by intro x;simp) hB
 have hD:jM R ty ((w6.setCell ⟨b,10,none⟩ (.slice d6 l.length l.length)).setCell ⟨b,1,none⟩ (.int .i64 ((bs++cs).length:Int))) b (bs++cs):=
  ⟨by rw[List.length_append];exact hfit,d6,by rw[hleft,iW];exact hO,by rw[hleft];exact hS2⟩
 have hall:=xO.out.trans hB
 simp only[List.length_append,Int.natCast_add] at hD hall
 exact⟨rfl,hD,hall⟩
theorem Da (w:World)(b:Nat)(bs:List UInt8)(h:jM R ty w b bs)(xb xo cx:Nat)(cs:List UInt8)(hx:ag w (some ⟨xb,xo,none⟩) cx cs)(hT:bN w)(hq:cx=cs.length)(hfit:bs.length+cs.length<=1048576)(hp:(leftOf bs).length+cs.length=64):
  Calls Tryz.prog 225 #[.pointer (some ⟨b,0,none⟩),.slice (some ⟨xb,xo,none⟩) cs.length cx] w λe w'=>e=.returned (.int .i64 0)/\jM R ty w' b (bs++cs)/\But b w w':=by
 have hc:cs=cs++([]:List UInt8):=(List.append_nil _).symm
 obtain⟨a,ho,hs⟩:=h.obj
 have h1:=ho.made
 have h2:=ho.size
 have h10:=ho.left
 have hfc:=hx.fits
 have hrc:=hx.room
 unfold maxLen at hrc
 have hcl:cs.length=cs.length+([]:List UInt8).length:=rfl
 have hxp:=hx
 have om:=hx.cut cs.length (Nat.le_refl _)
 rw[List.drop_length] at om
 have HX:=hx
 obtain⟨L,hL⟩:=ai (leftOf bs)
 have Gm:L.length<64:=by rw[hL,aL];omega
 rw[<-hL] at ho hs h10 hp
 have HO:Hid (aK R ty w b bs.length (aJ bs) (.slice a L.length L.length)):=ho
 have HL:Hid (L=leftOf bs):=hL
 have HC:Hid (cs=cs++([]:List UInt8)):=hc
 have hd:decide ((1048576:Int)-(bs.length:Int)<(cs.length:Int))=false:=by simp;omega
 obtain⟨d1,mW,w1,hrun,hs1,hb1,_⟩:=bQ w.drew a (some ⟨xb,xo,none⟩) cx L cs (hs.drewN 1) (hxp.drewN 1) (by omega)
 have HR:Hid ((Builtin.append_ #[24,24] 24 #[.slice a L.length L.length,.slice (some ⟨xb,xo,none⟩) cs.length cx]).run Tryz.prog w.drew=.ok (.slice d1 (L.length+cs.length) mW) w1):=hrun
 have HB1:Hid (Below w.heap.size w w1):=(Below.refl _ _).drew.trans hb1
 have g0:(0:Int)<=(cs.length:Int):=Int.natCast_nonneg _
 have g1:(cs.length:Int)<=(cx:Int):=by omega
 have g2:(cs.length:Int)<=(cs.length:Int):=by omega
 have g3:(cs.length:Int)<=(cx:Int):=by omega
 have Ju:Hid (cs.length=cs.length+([]:List UInt8).length):=hcl
 have hsub:cs.length-cs.length=([]:List UInt8).length:=by omega
 have hmin:(64:Int)-(L.length:Int)=(cs.length:Int):=by omega
 clear hsub
 subst hq
 rw[if_pos rfl,Nat.sub_self] at om
 clear ho hL h hc hrun hb1 hs hcl hx hxp HX
 go_enter Tryz.func225,Tryz.ntmps225
 go_wp2_with fail
 refine(bC w b h1).mono ?_
 rintro e w0 ⟨rfl,hw0⟩
 rw[hw0]
 clear hw0 w0
 go_wp2
 go_region_held3 (λw'=>w'.cell? ⟨b,10,none⟩=some (.slice a L.length L.length))
  (first|go_keep|(rw[(HB1.out).cell (p:=⟨b,10,none⟩) (World.block_lt_of_cell? _ _ h10)];exact h10))
  (refine aH rfl _ _ 24 rfl _ _ _ rfl rfl HR.out ?_)
 have ho1:=HO.out.below HB1.out
 have hK1:=hT.below HB1.out
 have mO:Hid ((Instr.loadAt 307 (.pointer (some ⟨b,2,none⟩))).run Tryz.prog w1=.ok (.agg (aJ bs).cells) w1):=ho1.loads
 have pW:=om.below HB1.out
 have h64:(L++cs).length=64:=by rw[List.length_append];exact hp
 have hcall:=oh w1 (aJ bs) (iJ bs) d1 mW (L++cs) hs1 h64 hK1
 have xM:=HB1.out
 go_wp2_with (refine aA rfl 307 _ rfl _ _ rfl mO.out ?_)
 refine hcall.mono ?_
 rintro e w2 ⟨rfl,hb2⟩
 have ho2:=ho1.below hb2
 obtain⟨w3,pX,ho3,iB⟩:=ho2.stores (cz (aJ bs) (L++cs))
 have lI:Hid ((Instr.storeAt 307 (.pointer (some ⟨b,2,none⟩)) (.agg (cz (aJ bs) (L++cs)).cells)).run Tryz.prog w2=.ok () w3):=pX
 have lJ:Hid ((Instr.loadAt 307 (.pointer (some ⟨b,2,none⟩))).run Tryz.prog w3=.ok (.agg (cz (aJ bs) (L++cs)).cells) w3):=ho3.loads
 have pY:=(pW.below hb2).but ho2 (by intro x;simp) iB
 have hK3:=(hK1.below hb2).but ho2 iB
 have dO:=lH w3 (cz (aJ bs) (L++cs)) (gQ _ _) _ _ ([]:List UInt8) pY hK3
 have qa:Hid (But b w w3):=(But.of_below xM).trans ((But.of_below hb2).trans iB)
 clear hcall pX iB hb2 ho2 ho1 hK1 pW mO hK3 pY hs1 HR
 obtain⟨T3,pJ⟩:∃ T,T=cz (aJ bs) (L++cs):=⟨_,rfl⟩
 rw[<-pJ] at ho3 dO lI lJ ⊢
 have HT3:Hid (T3=cz (aJ bs) (L++cs)):=pJ
 clear pJ
 go_wp2_with (first|refine ah rfl 307 _ _ rfl _ _ rfl rfl lI.out ?_|refine aA rfl 307 _ rfl _ _ rfl lJ.out ?_)
 refine dO.mono ?_
 rintro e w4 ⟨d4,OG,l,hl,rfl,hs4,hb4⟩
 have kT:=ho3.below hb4
 obtain⟨T5,xN⟩:∃ T,T=dF T3 ([]:List UInt8) (([]:List UInt8).length/64):=⟨_,rfl⟩
 rw[<-xN]
 obtain⟨w5,qc,qM,lK⟩:=kT.stores T5
 have qd:Hid ((Instr.storeAt 307 (.pointer (some ⟨b,2,none⟩)) (.agg T5.cells)).run Tryz.prog w4=.ok () w5):=qc
 have hs5:=hs4.but kT (by intro x;simp) lK
 have OH:Hid (T5=dF T3 ([]:List UInt8) (([]:List UInt8).length/64)):=xN
 have nJ:Hid (But b w w5):=qa.out.trans ((But.of_below hb4).trans lK)
 have hll:l.length<=140737488355328:=by rw[hl.out,List.length_drop];omega
 have gT:=qA w5 d4 OG l hs5 hll
 clear dO lI lJ xN qc lK hb4 kT ho3 hs4 hs5 qa
 go_wp2_with (refine ah rfl 307 _ _ rfl _ _ rfl rfl qd.out ?_)
 refine gT.mono ?_
 rintro e w6 ⟨d6,XZ,rfl,hs6,hb6⟩
 have lQ:=qM.below hb6
 have xO:Hid (But b w w6):=nJ.out.trans (But.of_below hb6)
 clear gT qd hb6 qM nJ
 have hfl:=hs6.fits
 have hrl:=hs6.room
 unfold maxLen at hrl
 have c1:=lQ.size
 have c10:=lQ.left
 have f10:=lQ.frozen 10
 have f1:=lQ.frozen 1
 have C9:Hid (aK R ty w6 b bs.length T5 (.slice a L.length L.length)):=lQ
 clear lQ h1 h2 h10
 go_wp2
 go_ret
 obtain⟨hst,hlf⟩:=kH bs cs cs ([]:List UInt8) HC.out (by rw[List.length_append,<-HL.out];exact hp)
 have hleft:leftOf (bs++cs)=l:=by rw[hlf,hl.out]
 have iW:aJ (bs++cs)=T5:=by rw[hst,OH.out,HT3.out,HL.out]
 have hO:=(C9.out.iE (.slice d6 l.length l.length)).iD (bs++cs).length
 have hB:But b w6 ((w6.setCell ⟨b,10,none⟩ (.slice d6 l.length l.length)).setCell ⟨b,1,none⟩ (.int .i64 ((bs++cs).length:Int))):=((But.refl b w6).setCell 10 _).setCell 1 _
 have hS:ag w6 d6 l.length l:=⟨Nat.le_refl _,by have:=hs6.room;have:=hs6.fits;omega,λhn=>by have:=hs6.bare hn;have:=hs6.fits;omega,hs6.at'⟩
 have hS2:=hS.but C9.out (by intro x;simp) hB
 have hD:jM R ty ((w6.setCell ⟨b,10,none⟩ (.slice d6 l.length l.length)).setCell ⟨b,1,none⟩ (.int .i64 ((bs++cs).length:Int))) b (bs++cs):=
  ⟨by rw[List.length_append];exact hfit,d6,by rw[hleft,iW];exact hO,by rw[hleft];exact hS2⟩
 have hall:=xO.out.trans hB
 simp only[List.length_append,Int.natCast_add] at hD hall
 exact⟨rfl,hD,hall⟩
theorem Db (w:World)(b:Nat)(bs:List UInt8)(h:jM R ty w b bs)(xb xo cx:Nat)(cs:List UInt8)(hx:ag w (some ⟨xb,xo,none⟩) cx cs)(hT:bN w)(hq:¬ cx=cs.length)(hfit:bs.length+cs.length<=1048576)(hp:(leftOf bs).length+cs.length=64):
  Calls Tryz.prog 225 #[.pointer (some ⟨b,0,none⟩),.slice (some ⟨xb,xo,none⟩) cs.length cx] w λe w'=>e=.returned (.int .i64 0)/\jM R ty w' b (bs++cs)/\But b w w':=by
 have hc:cs=cs++([]:List UInt8):=(List.append_nil _).symm
 obtain⟨a,ho,hs⟩:=h.obj
 have h1:=ho.made
 have h2:=ho.size
 have h10:=ho.left
 have hfc:=hx.fits
 have hrc:=hx.room
 unfold maxLen at hrc
 have hcl:cs.length=cs.length+([]:List UInt8).length:=rfl
 have hxp:=hx
 have om:=hx.cut cs.length (Nat.le_refl _)
 rw[List.drop_length] at om
 have HX:=hx
 obtain⟨L,hL⟩:=ai (leftOf bs)
 have Gm:L.length<64:=by rw[hL,aL];omega
 rw[<-hL] at ho hs h10 hp
 have HO:Hid (aK R ty w b bs.length (aJ bs) (.slice a L.length L.length)):=ho
 have HL:Hid (L=leftOf bs):=hL
 have HC:Hid (cs=cs++([]:List UInt8)):=hc
 have hd:decide ((1048576:Int)-(bs.length:Int)<(cs.length:Int))=false:=by simp;omega
 obtain⟨d1,mW,w1,hrun,hs1,hb1,_⟩:=bQ w.drew a (some ⟨xb,xo,none⟩) cx L cs (hs.drewN 1) (hxp.drewN 1) (by omega)
 have HR:Hid ((Builtin.append_ #[24,24] 24 #[.slice a L.length L.length,.slice (some ⟨xb,xo,none⟩) cs.length cx]).run Tryz.prog w.drew=.ok (.slice d1 (L.length+cs.length) mW) w1):=hrun
 have HB1:Hid (Below w.heap.size w w1):=(Below.refl _ _).drew.trans hb1
 have g0:(0:Int)<=(cs.length:Int):=Int.natCast_nonneg _
 have g1:(cs.length:Int)<=(cx:Int):=by omega
 have g2:(cs.length:Int)<=(cs.length:Int):=by omega
 have g3:(cs.length:Int)<=(cx:Int):=by omega
 have Ju:Hid (cs.length=cs.length+([]:List UInt8).length):=hcl
 have hsub:cs.length-cs.length=([]:List UInt8).length:=by omega
 have hmin:(64:Int)-(L.length:Int)=(cs.length:Int):=by omega
 clear hsub
 rw[if_neg hq] at om
 clear ho hL h hc hrun hb1 hs hcl hx hxp HX
 go_enter Tryz.func225,Tryz.ntmps225
 go_wp2_with fail
 refine(bC w b h1).mono ?_
 rintro e w0 ⟨rfl,hw0⟩
 rw[hw0]
 clear hw0 w0
 go_wp2
 go_region_held3 (λw'=>w'.cell? ⟨b,10,none⟩=some (.slice a L.length L.length))
  (first|go_keep|(rw[(HB1.out).cell (p:=⟨b,10,none⟩) (World.block_lt_of_cell? _ _ h10)];exact h10))
  (refine aH rfl _ _ 24 rfl _ _ _ rfl rfl HR.out ?_)
 have ho1:=HO.out.below HB1.out
 have hK1:=hT.below HB1.out
 have mO:Hid ((Instr.loadAt 307 (.pointer (some ⟨b,2,none⟩))).run Tryz.prog w1=.ok (.agg (aJ bs).cells) w1):=ho1.loads
 have pW:=om.below HB1.out
 have h64:(L++cs).length=64:=by rw[List.length_append];exact hp
 have hcall:=oh w1 (aJ bs) (iJ bs) d1 mW (L++cs) hs1 h64 hK1
 have xM:=HB1.out
 go_wp2_with (refine aA rfl 307 _ rfl _ _ rfl mO.out ?_)
 refine hcall.mono ?_
 rintro e w2 ⟨rfl,hb2⟩
 have ho2:=ho1.below hb2
 obtain⟨w3,pX,ho3,iB⟩:=ho2.stores (cz (aJ bs) (L++cs))
 have lI:Hid ((Instr.storeAt 307 (.pointer (some ⟨b,2,none⟩)) (.agg (cz (aJ bs) (L++cs)).cells)).run Tryz.prog w2=.ok () w3):=pX
 have lJ:Hid ((Instr.loadAt 307 (.pointer (some ⟨b,2,none⟩))).run Tryz.prog w3=.ok (.agg (cz (aJ bs) (L++cs)).cells) w3):=ho3.loads
 have pY:=(pW.below hb2).but ho2 (by intro x;simp) iB
 have hK3:=(hK1.below hb2).but ho2 iB
 have dO:=lH w3 (cz (aJ bs) (L++cs)) (gQ _ _) _ _ ([]:List UInt8) pY hK3
 have qa:Hid (But b w w3):=(But.of_below xM).trans ((But.of_below hb2).trans iB)
 clear hcall pX iB hb2 ho2 ho1 hK1 pW mO hK3 pY hs1 HR
 obtain⟨T3,pJ⟩:∃ T,T=cz (aJ bs) (L++cs):=⟨_,rfl⟩
 rw[<-pJ] at ho3 dO lI lJ ⊢
 have HT3:Hid (T3=cz (aJ bs) (L++cs)):=pJ
 clear pJ
 go_wp2_with (first|refine ah rfl 307 _ _ rfl _ _ rfl rfl lI.out ?_|refine aA rfl 307 _ rfl _ _ rfl lJ.out ?_)
 refine dO.mono ?_
 rintro e w4 ⟨d4,OG,l,hl,rfl,hs4,hb4⟩
 have kT:=ho3.below hb4
 obtain⟨T5,xN⟩:∃ T,T=dF T3 ([]:List UInt8) (([]:List UInt8).length/64):=⟨_,rfl⟩
 rw[<-xN]
 obtain⟨w5,qc,qM,lK⟩:=kT.stores T5
 have qd:Hid ((Instr.storeAt 307 (.pointer (some ⟨b,2,none⟩)) (.agg T5.cells)).run Tryz.prog w4=.ok () w5):=qc
 have hs5:=hs4.but kT (by intro x;simp) lK
 have OH:Hid (T5=dF T3 ([]:List UInt8) (([]:List UInt8).length/64)):=xN
 have nJ:Hid (But b w w5):=qa.out.trans ((But.of_below hb4).trans lK)
 have hll:l.length<=140737488355328:=by rw[hl.out,List.length_drop];omega
 have gT:=qA w5 d4 OG l hs5 hll
 clear dO lI lJ xN qc lK hb4 kT ho3 hs4 hs5 qa
 go_wp2_with (refine ah rfl 307 _ _ rfl _ _ rfl rfl qd.out ?_)
 refine gT.mono ?_
 rintro e w6 ⟨d6,XZ,rfl,hs6,hb6⟩
 have lQ:=qM.below hb6
 have xO:Hid (But b w w6):=nJ.out.trans (But.of_below hb6)
 clear gT qd hb6 qM nJ
 have hfl:=hs6.fits
 have hrl:=hs6.room
 unfold maxLen at hrl
 have c1:=lQ.size
 have c10:=lQ.left
 have f10:=lQ.frozen 10
 have f1:=lQ.frozen 1
 have C9:Hid (aK R ty w6 b bs.length T5 (.slice a L.length L.length)):=lQ
 clear lQ h1 h2 h10
 go_wp2
 go_ret
 obtain⟨hst,hlf⟩:=kH bs cs cs ([]:List UInt8) HC.out (by rw[List.length_append,<-HL.out];exact hp)
 have hleft:leftOf (bs++cs)=l:=by rw[hlf,hl.out]
 have iW:aJ (bs++cs)=T5:=by rw[hst,OH.out,HT3.out,HL.out]
 have hO:=(C9.out.iE (.slice d6 l.length l.length)).iD (bs++cs).length
 have hB:But b w6 ((w6.setCell ⟨b,10,none⟩ (.slice d6 l.length l.length)).setCell ⟨b,1,none⟩ (.int .i64 ((bs++cs).length:Int))):=((But.refl b w6).setCell 10 _).setCell 1 _
 have hS:ag w6 d6 l.length l:=⟨Nat.le_refl _,by have:=hs6.room;have:=hs6.fits;omega,λhn=>by have:=hs6.bare hn;have:=hs6.fits;omega,hs6.at'⟩
 have hS2:=hS.but C9.out (by intro x;simp) hB
 have hD:jM R ty ((w6.setCell ⟨b,10,none⟩ (.slice d6 l.length l.length)).setCell ⟨b,1,none⟩ (.int .i64 ((bs++cs).length:Int))) b (bs++cs):=
  ⟨by rw[List.length_append];exact hfit,d6,by rw[hleft,iW];exact hO,by rw[hleft];exact hS2⟩
 have hall:=xO.out.trans hB
 simp only[List.length_append,Int.natCast_add] at hD hall
 exact⟨rfl,hD,hall⟩
theorem FC (w:World)(b:Nat)(bs:List UInt8)(h:jM R ty w b bs)(xb xo cx:Nat)(cs:List UInt8)(hx:ag w (some ⟨xb,xo,none⟩) cx cs)(hT:bN w)(hq:cx=cs.length)(hfit:bs.length+cs.length<=1048576)(hp:(leftOf bs).length+cs.length<64):
  Calls Tryz.prog 225 #[.pointer (some ⟨b,0,none⟩),.slice (some ⟨xb,xo,none⟩) cs.length cx] w λe w'=>e=.returned (.int .i64 0)/\jM R ty w' b (bs++cs)/\But b w w':=by
 have hc:cs=cs++([]:List UInt8):=(List.append_nil _).symm
 obtain⟨a,ho,hs⟩:=h.obj
 have h1:=ho.made
 have h2:=ho.size
 have h10:=ho.left
 have hfc:=hx.fits
 have hrc:=hx.room
 unfold maxLen at hrc
 have hcl:cs.length=cs.length+([]:List UInt8).length:=rfl
 have hxp:=hx
 have om:=hx.cut cs.length (Nat.le_refl _)
 rw[List.drop_length] at om
 have HX:=hx
 obtain⟨L,hL⟩:=ai (leftOf bs)
 have Gm:L.length<64:=by rw[hL,aL];omega
 rw[<-hL] at ho hs h10 hp
 have HO:Hid (aK R ty w b bs.length (aJ bs) (.slice a L.length L.length)):=ho
 have HL:Hid (L=leftOf bs):=hL
 have HC:Hid (cs=cs++([]:List UInt8)):=hc
 have hd:decide ((1048576:Int)-(bs.length:Int)<(cs.length:Int))=false:=by simp;omega
 obtain⟨d1,mW,w1,hrun,hs1,hb1,_⟩:=bQ w.drew a (some ⟨xb,xo,none⟩) cx L cs (hs.drewN 1) (hxp.drewN 1) (by omega)
 have HR:Hid ((Builtin.append_ #[24,24] 24 #[.slice a L.length L.length,.slice (some ⟨xb,xo,none⟩) cs.length cx]).run Tryz.prog w.drew=.ok (.slice d1 (L.length+cs.length) mW) w1):=hrun
 have HB1:Hid (Below w.heap.size w w1):=(Below.refl _ _).drew.trans hb1
 have g0:(0:Int)<=(cs.length:Int):=Int.natCast_nonneg _
 have g1:(cs.length:Int)<=(cx:Int):=by omega
 have g2:(cs.length:Int)<=(cs.length:Int):=by omega
 have g3:(cs.length:Int)<=(cx:Int):=by omega
 have Ju:Hid (cs.length=cs.length+([]:List UInt8).length):=hcl
 have hsub:cs.length-cs.length=([]:List UInt8).length:=by omega
 have hmin:(cs.length:Int)<(64:Int)-(L.length:Int):=by omega
 clear hsub
 subst hq
 rw[if_pos rfl,Nat.sub_self] at om
 clear ho hL h hc hrun hb1 hs hcl hx hxp HX
 go_enter Tryz.func225,Tryz.ntmps225
 go_wp2_with fail
 refine(bC w b h1).mono ?_
 rintro e w0 ⟨rfl,hw0⟩
 rw[hw0]
 clear hw0 w0
 go_wp2
 go_region_held3 (λw'=>w'.cell? ⟨b,10,none⟩=some (.slice a L.length L.length))
  (first|go_keep|(rw[(HB1.out).cell (p:=⟨b,10,none⟩) (World.block_lt_of_cell? _ _ h10)];exact h10))
  (refine aH rfl _ _ 24 rfl _ _ _ rfl rfl HR.out ?_)
 have ho1:=HO.out.below HB1.out
 have FD:Hid (But b w w1):=But.of_below HB1.out
 have c1:=ho1.size
 have c10:=ho1.left
 have f10:=ho1.frozen 10
 have f1:=ho1.frozen 1
 obtain⟨l,hll⟩:=ai (L++cs)
 have hlen:L.length+cs.length=l.length:=by rw[hll,List.length_append]
 rw[<-hll] at hs1
 have OI:Hid (l=L++cs):=hll
 have hfl:=hs1.fits
 have hrl:=hs1.room
 unfold maxLen at hrl
 have ht:((l.length:Int)==64)=false:=by simp;omega
 have OJ:Hid (aK R ty w1 b bs.length (aJ bs) (.slice a L.length L.length)):=ho1
 clear ho1 h1 h2 h10 HR hll om
 go_wp2
 go_ret
 obtain⟨hst,hlf⟩:=sV bs cs (by rw[<-HL.out];exact hp)
 have hleft:leftOf (bs++cs)=l:=by rw[hlf,OI.out,HL.out]
 have hO:=(OJ.out.iE (.slice d1 l.length l.length)).iD (bs++cs).length
 have hB:But b w1 ((w1.setCell ⟨b,10,none⟩ (.slice d1 l.length l.length)).setCell ⟨b,1,none⟩ (.int .i64 ((bs++cs).length:Int))):=((But.refl b w1).setCell 10 _).setCell 1 _
 have hS:ag w1 d1 l.length l:=⟨Nat.le_refl _,by have:=hs1.room;have:=hs1.fits;omega,λhn=>by have:=hs1.bare hn;have:=hs1.fits;omega,hs1.at'⟩
 have hS2:=hS.but OJ.out (by intro x;simp) hB
 have hD:jM R ty ((w1.setCell ⟨b,10,none⟩ (.slice d1 l.length l.length)).setCell ⟨b,1,none⟩ (.int .i64 ((bs++cs).length:Int))) b (bs++cs):=
  ⟨by rw[List.length_append];exact hfit,d1,by rw[hleft,hst];exact hO,by rw[hleft];exact hS2⟩
 have hall:=FD.out.trans hB
 simp only[List.length_append,Int.natCast_add] at hD hall
 exact⟨rfl,hD,hall⟩
theorem FE (w:World)(b:Nat)(bs:List UInt8)(h:jM R ty w b bs)(xb xo cx:Nat)(cs:List UInt8)(hx:ag w (some ⟨xb,xo,none⟩) cx cs)(hT:bN w)(hq:¬ cx=cs.length)(hfit:bs.length+cs.length<=1048576)(hp:(leftOf bs).length+cs.length<64):
  Calls Tryz.prog 225 #[.pointer (some ⟨b,0,none⟩),.slice (some ⟨xb,xo,none⟩) cs.length cx] w λe w'=>e=.returned (.int .i64 0)/\jM R ty w' b (bs++cs)/\But b w w':=by
 have hc:cs=cs++([]:List UInt8):=(List.append_nil _).symm
 obtain⟨a,ho,hs⟩:=h.obj
 have h1:=ho.made
 have h2:=ho.size
 have h10:=ho.left
 have hfc:=hx.fits
 have hrc:=hx.room
 unfold maxLen at hrc
 have hcl:cs.length=cs.length+([]:List UInt8).length:=rfl
 have hxp:=hx
 have om:=hx.cut cs.length (Nat.le_refl _)
 rw[List.drop_length] at om
 have HX:=hx
 obtain⟨L,hL⟩:=ai (leftOf bs)
 have Gm:L.length<64:=by rw[hL,aL];omega
 rw[<-hL] at ho hs h10 hp
 have HO:Hid (aK R ty w b bs.length (aJ bs) (.slice a L.length L.length)):=ho
 have HL:Hid (L=leftOf bs):=hL
 have HC:Hid (cs=cs++([]:List UInt8)):=hc
 have hd:decide ((1048576:Int)-(bs.length:Int)<(cs.length:Int))=false:=by simp;omega
 obtain⟨d1,mW,w1,hrun,hs1,hb1,_⟩:=bQ w.drew a (some ⟨xb,xo,none⟩) cx L cs (hs.drewN 1) (hxp.drewN 1) (by omega)
 have HR:Hid ((Builtin.append_ #[24,24] 24 #[.slice a L.length L.length,.slice (some ⟨xb,xo,none⟩) cs.length cx]).run Tryz.prog w.drew=.ok (.slice d1 (L.length+cs.length) mW) w1):=hrun
 have HB1:Hid (Below w.heap.size w w1):=(Below.refl _ _).drew.trans hb1
 have g0:(0:Int)<=(cs.length:Int):=Int.natCast_nonneg _
 have g1:(cs.length:Int)<=(cx:Int):=by omega
 have g2:(cs.length:Int)<=(cs.length:Int):=by omega
 have g3:(cs.length:Int)<=(cx:Int):=by omega
 have Ju:Hid (cs.length=cs.length+([]:List UInt8).length):=hcl
 have hsub:cs.length-cs.length=([]:List UInt8).length:=by omega
 have hmin:(cs.length:Int)<(64:Int)-(L.length:Int):=by omega
 clear hsub
 rw[if_neg hq] at om
 clear ho hL h hc hrun hb1 hs hcl hx hxp HX
 go_enter Tryz.func225,Tryz.ntmps225
 go_wp2_with fail
 refine(bC w b h1).mono ?_
 rintro e w0 ⟨rfl,hw0⟩
 rw[hw0]
 clear hw0 w0
 go_wp2
 go_region_held3 (λw'=>w'.cell? ⟨b,10,none⟩=some (.slice a L.length L.length))
  (first|go_keep|(rw[(HB1.out).cell (p:=⟨b,10,none⟩) (World.block_lt_of_cell? _ _ h10)];exact h10))
  (refine aH rfl _ _ 24 rfl _ _ _ rfl rfl HR.out ?_)
 have ho1:=HO.out.below HB1.out
 have FD:Hid (But b w w1):=But.of_below HB1.out
 have c1:=ho1.size
 have c10:=ho1.left
 have f10:=ho1.frozen 10
 have f1:=ho1.frozen 1
 obtain⟨l,hll⟩:=ai (L++cs)
 have hlen:L.length+cs.length=l.length:=by rw[hll,List.length_append]
 rw[<-hll] at hs1
 have OI:Hid (l=L++cs):=hll
 have hfl:=hs1.fits
 have hrl:=hs1.room
 unfold maxLen at hrl
 have ht:((l.length:Int)==64)=false:=by simp;omega
 have OJ:Hid (aK R ty w1 b bs.length (aJ bs) (.slice a L.length L.length)):=ho1
 clear ho1 h1 h2 h10 HR hll om
 go_wp2
 go_ret
 obtain⟨hst,hlf⟩:=sV bs cs (by rw[<-HL.out];exact hp)
 have hleft:leftOf (bs++cs)=l:=by rw[hlf,OI.out,HL.out]
 have hO:=(OJ.out.iE (.slice d1 l.length l.length)).iD (bs++cs).length
 have hB:But b w1 ((w1.setCell ⟨b,10,none⟩ (.slice d1 l.length l.length)).setCell ⟨b,1,none⟩ (.int .i64 ((bs++cs).length:Int))):=((But.refl b w1).setCell 10 _).setCell 1 _
 have hS:ag w1 d1 l.length l:=⟨Nat.le_refl _,by have:=hs1.room;have:=hs1.fits;omega,λhn=>by have:=hs1.bare hn;have:=hs1.fits;omega,hs1.at'⟩
 have hS2:=hS.but OJ.out (by intro x;simp) hB
 have hD:jM R ty ((w1.setCell ⟨b,10,none⟩ (.slice d1 l.length l.length)).setCell ⟨b,1,none⟩ (.int .i64 ((bs++cs).length:Int))) b (bs++cs):=
  ⟨by rw[List.length_append];exact hfit,d1,by rw[hleft,hst];exact hO,by rw[hleft];exact hS2⟩
 have hall:=FD.out.trans hB
 simp only[List.length_append,Int.natCast_add] at hD hall
 exact⟨rfl,hD,hall⟩
theorem FH (w:World)(b:Nat)(bs:List UInt8)(h:jM R ty w b bs)(x:Option Addr)(cx:Nat)(hx:ag w x cx []):
  Calls Tryz.prog 225 #[.pointer (some ⟨b,0,none⟩),.slice x 0 cx] w λe w'=>e=.returned (.int .i64 0)/\jM R ty w' b bs/\But b w w':=by
 obtain⟨a,ho,hs⟩:=h.obj
 have hlen:=h.len
 have h1:=ho.made
 have h2:=ho.size
 have h10:=ho.left
 have hrc:=hx.room
 unfold maxLen at hrc
 obtain⟨L,hL⟩:=ai (leftOf bs)
 have Gm:L.length<64:=by rw[hL,aL];omega
 rw[<-hL] at ho hs h10
 have HO:Hid (aK R ty w b bs.length (aJ bs) (.slice a L.length L.length)):=ho
 have HL:Hid (L=leftOf bs):=hL
 have hd:decide ((1048576:Int)-(bs.length:Int)<(0:Int))=false:=by simp;omega
 have hmin:(0:Int)<(64:Int)-(L.length:Int):=by omega
 have hrun:(Builtin.append_ #[24,24] 24 #[.slice a L.length L.length,.slice x 0 cx]).run Tryz.prog w.drew=.ok (.slice a L.length L.length) w.drew:=by
  obtain⟨i5,hi,hz0,hz1,hz2⟩:=info_parts Tryz.info5
  exact run_append_nothing (P:=Tryz.prog) w.drew 24 24 24 5 i5 Tryz.underlying24 hi a L.length L.length (Nat.le_refl _) (.slice x 0 cx) (by rw[hz1];exact(hx.drewN 1).src)
 have HR:Hid ((Builtin.append_ #[24,24] 24 #[.slice a L.length L.length,.slice x 0 cx]).run Tryz.prog w.drew=.ok (.slice a L.length L.length) w.drew):=hrun
 have c1:=ho.size
 have f10:=ho.frozen 10
 have f1:=ho.frozen 1
 have ht:((L.length:Int)==64)=false:=by simp;omega
 have hfl:=hs.room
 unfold maxLen at hfl
 have hbare:=hx.bare
 clear ho hL h hrun
 have hO:aK R ty ((w.drew.setCell ⟨b,10,none⟩ (.slice a L.length L.length)).setCell ⟨b,1,none⟩ (.int .i64 (bs.length:Int))) b bs.length (aJ bs) (.slice a L.length L.length):=
  ((HO.out.drewN 1).iE (.slice a L.length L.length)).iD bs.length
 have hB:But b w ((w.drew.setCell ⟨b,10,none⟩ (.slice a L.length L.length)).setCell ⟨b,1,none⟩ (.int .i64 (bs.length:Int))):=
  (((But.refl b w).drewN 1).setCell 10 _).setCell 1 _
 have hS:=hs.but HO.out (by intro x;simp) hB
 have hD:jM R ty ((w.drew.setCell ⟨b,10,none⟩ (.slice a L.length L.length)).setCell ⟨b,1,none⟩ (.int .i64 (bs.length:Int))) b bs:=
  ⟨hlen,a,by rw[<-HL.out];exact hO,by rw[<-HL.out];exact hS⟩
 clear hO hS hs
 cases x with
 | none =>
   obtain rfl := hbare rfl
   clear hx
   go_enter Tryz.func225, Tryz.ntmps225
   go_wp2_with fail
   refine (bC w b h1).mono ?_
   rintro e w0 ⟨rfl, hw0⟩
   rw [hw0]
   clear hw0 w0
   go_wp2
   go_region_held3 (fun w' => w'.cell? ⟨b, 10, none⟩ = some (.slice a L.length L.length))
     (first | go_keep)
     (refine aH rfl _ _ 24 rfl _ _ _ rfl rfl HR.out ?_)
   go_wp2
   go_ret
   exact ⟨rfl, hD, hB⟩
 | some ad =>
   by_cases hq : cx = 0
   · subst hq
     go_enter Tryz.func225, Tryz.ntmps225
     go_wp2_with fail
     refine (bC w b h1).mono ?_
     rintro e w0 ⟨rfl, hw0⟩
     rw [hw0]
     clear hw0 w0
     go_wp2
     go_region_held3 (fun w' => w'.cell? ⟨b, 10, none⟩ = some (.slice a L.length L.length))
       (first | go_keep)
       (refine aH rfl _ _ 24 rfl _ _ _ rfl rfl HR.out ?_)
     go_wp2
     go_ret
     exact ⟨rfl, hD, hB⟩
   · have gq : (0 : Int) ≤ (cx : Int) := Int.natCast_nonneg _
     go_enter Tryz.func225, Tryz.ntmps225
     go_wp2_with fail
     refine (bC w b h1).mono ?_
     rintro e w0 ⟨rfl, hw0⟩
     rw [hw0]
     clear hw0 w0
     go_wp2
     go_region_held3 (fun w' => w'.cell? ⟨b, 10, none⟩ = some (.slice a L.length L.length))
       (first | go_keep)
       (refine aH rfl _ _ 24 rfl _ _ _ rfl rfl HR.out ?_)
     go_wp2
     go_ret
     exact ⟨rfl, hD, hB⟩
theorem uy (w:World)(b:Nat)(bs:List UInt8)(h:jM R ty w b bs)(x:Option Addr)(cx:Nat)(cs:List UInt8)(hx:ag w x cx cs)(hT:bN w)(hfit:bs.length+cs.length<=1048576):
  Calls Tryz.prog 225 #[.pointer (some ⟨b,0,none⟩),.slice x cs.length cx] w λe w'=>e=.returned (.int .i64 0)/\jM R ty w' b (bs++cs)/\But b w w':=by
 by_cases h0:cs=[]
 ·subst h0
  rw[List.append_nil]
  exact FH w b bs h x cx hx
 ·obtain⟨xb,xo,rfl,_⟩:=hx.at' h0
  rcases Nat.lt_trichotomy ((leftOf bs).length+cs.length) 64 with hlt|heq|hgt
  ·by_cases hq:cx=cs.length
   ·exact FC w b bs h xb xo cx cs hx hT hq hfit hlt
   ·exact FE w b bs h xb xo cx cs hx hT hq hfit hlt
  ·by_cases hq:cx=cs.length
   ·exact Da w b bs h xb xo cx cs hx hT hq hfit heq
   ·exact Db w b bs h xb xo cx cs hx hT hq hfit heq
  ·have hl:=aL bs
   refine FB w b bs h xb xo cx cs (cs.take (64-(leftOf bs).length)) (cs.drop (64-(leftOf bs).length)) hx hT hfit (List.take_append_drop _ _).symm ?_ ?_
   ·rw[List.length_take];omega
   ·rw[List.length_drop];omega
end Go.Proofs.YtmffplhaclnehaaGreatDoor
