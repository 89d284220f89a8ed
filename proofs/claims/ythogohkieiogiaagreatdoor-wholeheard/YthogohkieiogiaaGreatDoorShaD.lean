/-
  The contract of Write once more, with where what is left lies: in new memory, if bytes came.

  Write of no bytes, with where what is left lies.
-/
import Derived.Test.YthogohkieiogiaaGreatDoorShaC
namespace Go.Proofs.YthogohkieiogiaaGreatDoor
set_option maxRecDepth 20000
set_option maxHeartbeats 1600000
open Go.ChangeShapes Go.WideShapes Go.ChangeAt Go.RowKit
set_option linter.unusedVariables false
def LeftFree (R:List Value)(ty:TypeId)(B:Nat)(w:World)(b n:Nat)(bs:List UInt8):Prop:=
 ∃ a,ObjAt R ty w b n (stOf bs) (.slice a (leftOf bs).length (leftOf bs).length)/\∀ b' off,a=some ⟨b',off,none⟩->leftOf bs≠[]->B<=b'
theorem own_free {w:World}{base:Nat}{d:Option Addr}{n cd m:Nat}{xs:List Value}(h:w.ownsRow base 5 1 (.slice d n cd) m xs):∀ b' off,d=some ⟨b',off,none⟩->base<=b':=by
 rintro b' off rfl
 rcases h.2 with ⟨h1,_⟩|⟨g,cap,cur,hv,hlow,_⟩
 ·cases h1
 ·simp only[Value.slice.injEq,Option.some.injEq,Addr.mk.injEq] at hv
  rw[hv.1.1];exact hlow
theorem clone2_any (w:World)(x:Option Addr)(cx:Nat)(cs:List UInt8)(hx:Sees w x cx cs)(hb:cs.length<=140737488355328):
  Calls Tryz.prog 172 #[.slice x cs.length cx] w λe w'=>∃ d cd,e=.returned (.slice d cs.length cd)/\Sees w' d cd cs/\Below w.heap.size w w'/\∀ b' off,d=some ⟨b',off,none⟩->cs≠[]->w.heap.size<=b':=by
 cases x with
 | none =>
   have h0 := hx.bare rfl
   have h1 := hx.fits
   have : cs = [] := List.eq_nil_of_length_eq_zero (by omega)
   subst this
   subst h0
   have hq := Lib.run_eql_slice_nil (P := Tryz.prog) w 22 5 none 0 0 0 0 Tryz.underlying22
   go_enter Tryz.func172, Tryz.ntmps172
   go_wp2
   go_ret
   exact ⟨none, 0, rfl, Sees.nil' w, Below.refl _ _, fun _ _ h _ => by cases h⟩
 | some ad =>
   have hb0 : Below w.heap.size w (w.alloc (.cells #[] 5)) := (Below.refl _ _).alloc (Nat.le_refl _) _
   have hx1 := hx.below hb0
   obtain ⟨d, cd, w', hrun, hs, hbl, hown⟩ := append_full (w.alloc (.cells #[] 5)) (some ⟨w.heap.size, 0, none⟩) (some ad) cx [] cs ⟨by simp, by simp, by simp, fun h => absurd rfl h⟩ hx1 (by simpa using hb)
   have hfr : ∀ b' off, d = some ⟨b', off, none⟩ → cs ≠ [] → w.heap.size ≤ b' := fun b' off h1 h2 => by
     have := own_free (hown (List.length_pos_iff.2 h2)) b' off h1
     simp at this; omega
   have HR : Hid ((Builtin.append_ #[22, 22] 22 #[.slice (some ⟨w.heap.size, 0, none⟩) 0 0, .slice (some ad) cs.length cx]).run Tryz.prog (w.alloc (.cells #[] 5)) = .ok (.slice d cs.length cd) w') := by
     simp only [List.length_nil, Nat.zero_add] at hrun; exact hrun
   have hq := Lib.run_eql_slice_nil (P := Tryz.prog) w 22 5 (some ad) cs.length cx 0 0 Tryz.underlying22
   clear hrun hown
   go_enter Tryz.func172, Tryz.ntmps172
   go_wp2_with (at_builtin; refine wpList_append_run rfl _ _ 22 rfl _ _ _ rfl rfl HR.out ?_)
   go_ret
   exact ⟨d, cd, rfl, by simpa using hs, hb0.trans (hbl.mono (by simp)), hfr⟩
theorem write2_many {R:List Value}{ty:TypeId}(w:World)(b:Nat)(bs:List UInt8)(h:Dig R ty w b bs)(xb xo cx:Nat)(cs p r:List UInt8)(hx:Sees w (some ⟨xb,xo,none⟩) cx cs)(hT:KTab w)(hfit:bs.length+cs.length<=1048576)(hc:cs=p++r)(hp:(leftOf bs).length+p.length=64)(hr:0<r.length):
  Calls Tryz.prog 193 #[.pointer (some ⟨b,0,none⟩),.slice (some ⟨xb,xo,none⟩) cs.length cx] w λe w'=>e=.returned (.int .i64 0)/\Dig R ty w' b (bs++cs)/\But b w w'/\LeftFree R ty w.heap.size w' b (bs.length+cs.length) (bs++cs):=by
 obtain⟨a,ho,hs⟩:=h.obj
 have h1:=ho.made
 have h2:=ho.size
 have h10:=ho.left
 have hfc:=hx.fits
 have hrc:=hx.room
 unfold maxLen at hrc
 have hcl:cs.length=p.length+r.length:=by rw[hc,List.length_append]
 have hxp:Sees w (some ⟨xb,xo,none⟩) cx p:=by have:=hx.take p.length;rwa [hc,List.take_left] at this
 have hxr:=hx.cut p.length (by omega)
 rw[show cs.drop p.length=r from by rw[hc,List.drop_left]] at hxr
 have HX:=hx
 obtain⟨L,hL⟩:∃ L,L=leftOf bs:=⟨_,rfl⟩
 have hLl:L.length<64:=by rw[hL,leftOf_length];omega
 rw[<-hL] at ho hs h10 hp
 have HO:Hid (ObjAt R ty w b bs.length (stOf bs) (.slice a L.length L.length)):=ho
 have HL:Hid (L=leftOf bs):=hL
 have HC:Hid (cs=p++r):=hc
 have hd:decide ((1048576:Int)-(bs.length:Int)<(cs.length:Int))=false:=by simp;omega
 obtain⟨d1,cd1,w1,hrun,hs1,hb1,_⟩:=append_full w.drew a (some ⟨xb,xo,none⟩) cx L p (hs.drewN 1) (hxp.drewN 1) (by omega)
 have HR:Hid ((Builtin.append_ #[22,22] 22 #[.slice a L.length L.length,.slice (some ⟨xb,xo,none⟩) p.length cx]).run Tryz.prog w.drew=.ok (.slice d1 (L.length+p.length) cd1) w1):=hrun
 have HB1:Hid (Below w.heap.size w w1):=(Below.refl _ _).drew.trans hb1
 have g0:(0:Int)<=(p.length:Int):=Int.natCast_nonneg _
 have g1:(p.length:Int)<=(cx:Int):=by omega
 have g2:(p.length:Int)<=(cs.length:Int):=by omega
 have g3:(cs.length:Int)<=(cx:Int):=by omega
 have HCL:Hid (cs.length=p.length+r.length):=hcl
 have hsub:cs.length-p.length=r.length:=by omega
 have hmin:(64:Int)-(L.length:Int)=(p.length:Int):=by omega
 have hne:¬ (cx=p.length):=by omega
 have glt:(p.length:Int)<(cs.length:Int):=by omega
 rw[if_neg hne] at hxr
 clear ho hL h hc hrun hb1 hs hcl hx hxp HX
 go_enter Tryz.func193,Tryz.ntmps193
 go_wp2_with fail
 refine(stands_yes w b h1).mono ?_
 rintro e w0 ⟨rfl,hw0⟩
 rw[hw0]
 clear hw0 w0
 go_wp2
 go_region_held3 (λw'=>w'.cell? ⟨b,10,none⟩=some (.slice a L.length L.length))
  (first|go_keep|(rw[(HB1.out).cell (p:=⟨b,10,none⟩) (World.block_lt_of_cell? _ _ h10)];exact h10))
  (refine step_append_run rfl _ _ 22 rfl _ _ _ rfl rfl HR.out ?_)
 have ho1:=HO.out.below HB1.out
 have hK1:=hT.below HB1.out
 have HLD1:Hid ((Instr.loadAt 275 (.pointer (some ⟨b,2,none⟩))).run Tryz.prog w1=.ok (.agg (stOf bs).cells) w1):=ho1.loads
 have hxr1:=hxr.below HB1.out
 have h64:(L++p).length=64:=by rw[List.length_append];exact hp
 have hcall:=mix_any w1 (stOf bs) (stOf_small bs) d1 cd1 (L++p) hs1 h64 hK1
 have HB1':=HB1.out
 go_wp2_with (refine wpList_load_run rfl 275 _ rfl _ _ rfl HLD1.out ?_)
 refine hcall.mono ?_
 rintro e w2 ⟨rfl,hb2⟩
 have ho2:=ho1.below hb2
 obtain⟨w3,hst3,ho3,hbt3⟩:=ho2.stores (mixS (stOf bs) (L++p))
 have HST3:Hid ((Instr.storeAt 275 (.pointer (some ⟨b,2,none⟩)) (.agg (mixS (stOf bs) (L++p)).cells)).run Tryz.prog w2=.ok () w3):=hst3
 have HLD3:Hid ((Instr.loadAt 275 (.pointer (some ⟨b,2,none⟩))).run Tryz.prog w3=.ok (.agg (mixS (stOf bs) (L++p)).cells) w3):=ho3.loads
 have hxr3:=(hxr1.below hb2).but ho2 (by intro x;simp) hbt3
 have hK3:=(hK1.below hb2).but ho2 hbt3
 have hcall3:=take_any w3 (mixS (stOf bs) (L++p)) (mixS_small _ _) _ _ r hxr3 hK3
 have HBT3:Hid (But b w w3):=(But.of_below HB1').trans ((But.of_below hb2).trans hbt3)
 clear hcall hst3 hbt3 hb2 ho2 ho1 hK1 hxr1 HLD1 hK3 hxr3 hs1 HR
 obtain⟨T3,hT3⟩:∃ T,T=mixS (stOf bs) (L++p):=⟨_,rfl⟩
 rw[<-hT3] at ho3 hcall3 HST3 HLD3 ⊢
 have HT3:Hid (T3=mixS (stOf bs) (L++p)):=hT3
 clear hT3
 go_wp2_with (first|refine wpList_store_run rfl 275 _ _ rfl _ _ rfl rfl HST3.out ?_|refine wpList_load_run rfl 275 _ rfl _ _ rfl HLD3.out ?_)
 refine hcall3.mono ?_
 rintro e w4 ⟨d4,cd4,l,hl,rfl,hs4,hb4⟩
 have ho4:=ho3.below hb4
 obtain⟨T5,hT5⟩:∃ T,T=runB T3 r (r.length/64):=⟨_,rfl⟩
 rw[<-hT5]
 obtain⟨w5,hst5,ho5,hbt5⟩:=ho4.stores T5
 have HST5:Hid ((Instr.storeAt 275 (.pointer (some ⟨b,2,none⟩)) (.agg T5.cells)).run Tryz.prog w4=.ok () w5):=hst5
 have hs5:=hs4.but ho4 (by intro x;simp) hbt5
 have HT5:Hid (T5=runB T3 r (r.length/64)):=hT5
 have HBT5:Hid (But b w w5):=HBT3.out.trans ((But.of_below hb4).trans hbt5)
 have hll:l.length<=140737488355328:=by rw[hl.out,List.length_drop];omega
 have hcall5:=clone2_any w5 d4 cd4 l hs5 hll
 have hsz5:w.heap.size<=w5.heap.size:=HBT5.out.size
 clear hcall3 HST3 HLD3 hT5 hst5 hbt5 hb4 ho4 ho3 hs4 hs5 HBT3
 go_wp2_with (refine wpList_store_run rfl 275 _ _ rfl _ _ rfl rfl HST5.out ?_)
 refine hcall5.mono ?_
 rintro e w6 ⟨d6,cd6,rfl,hs6,hb6,hfr6⟩
 have ho6:=ho5.below hb6
 have HBT6:Hid (But b w w6):=HBT5.out.trans (But.of_below hb6)
 clear hcall5 HST5 hb6 ho5 HBT5
 have hfl:=hs6.fits
 have hrl:=hs6.room
 unfold maxLen at hrl
 have c1:=ho6.size
 have c10:=ho6.left
 have f10:=ho6.frozen 10
 have f1:=ho6.frozen 1
 have HO6:Hid (ObjAt R ty w6 b bs.length T5 (.slice a L.length L.length)):=ho6
 clear ho6 h1 h2 h10
 go_wp2
 go_ret
 obtain⟨hst,hlf⟩:=more_many bs cs p r HC.out (by rw[List.length_append,<-HL.out];exact hp)
 have hleft:leftOf (bs++cs)=l:=by rw[hlf,hl.out]
 have hstate:stOf (bs++cs)=T5:=by rw[hst,HT5.out,HT3.out,HL.out]
 have hO:=(HO6.out.setLeft (.slice d6 l.length l.length)).setSize (bs++cs).length
 have hO2:=hO
 simp only[List.length_append,Int.natCast_add] at hO2
 have hB:But b w6 ((w6.setCell ⟨b,10,none⟩ (.slice d6 l.length l.length)).setCell ⟨b,1,none⟩ (.int .i64 ((bs++cs).length:Int))):=((But.refl b w6).setCell 10 _).setCell 1 _
 have hS:Sees w6 d6 l.length l:=⟨Nat.le_refl _,by have:=hs6.room;have:=hs6.fits;omega,λhn=>by have:=hs6.bare hn;have:=hs6.fits;omega,hs6.at'⟩
 have hS2:=hS.but HO6.out (by intro x;simp) hB
 have hD:Dig R ty ((w6.setCell ⟨b,10,none⟩ (.slice d6 l.length l.length)).setCell ⟨b,1,none⟩ (.int .i64 ((bs++cs).length:Int))) b (bs++cs):=
  ⟨by rw[List.length_append];exact hfit,d6,by rw[hleft,hstate];exact hO,by rw[hleft];exact hS2⟩
 have hall:=HBT6.out.trans hB
 simp only[List.length_append,Int.natCast_add] at hD hall
 exact⟨rfl,hD,hall,d6,by rw[hleft,hstate];exact hO2,λb' off h1 h2=>Nat.le_trans hsz5 (hfr6 b' off h1 (by rw[<-hleft];exact h2))⟩
theorem write2_aeven {R:List Value}{ty:TypeId}(w:World)(b:Nat)(bs:List UInt8)(h:Dig R ty w b bs)(xb xo cx:Nat)(cs:List UInt8)(hx:Sees w (some ⟨xb,xo,none⟩) cx cs)(hT:KTab w)(hq:cx=cs.length)(hfit:bs.length+cs.length<=1048576)(hp:(leftOf bs).length+cs.length=64):
  Calls Tryz.prog 193 #[.pointer (some ⟨b,0,none⟩),.slice (some ⟨xb,xo,none⟩) cs.length cx] w λe w'=>e=.returned (.int .i64 0)/\Dig R ty w' b (bs++cs)/\But b w w'/\LeftFree R ty w.heap.size w' b (bs.length+cs.length) (bs++cs):=by
 have hc:cs=cs++([]:List UInt8):=(List.append_nil _).symm
 obtain⟨a,ho,hs⟩:=h.obj
 have h1:=ho.made
 have h2:=ho.size
 have h10:=ho.left
 have hfc:=hx.fits
 have hrc:=hx.room
 unfold maxLen at hrc
 have hcl:cs.length=cs.length+([]:List UInt8).length:=rfl
 have hxp:=hx
 have hxr:=hx.cut cs.length (Nat.le_refl _)
 rw[List.drop_length] at hxr
 have HX:=hx
 obtain⟨L,hL⟩:∃ L,L=leftOf bs:=⟨_,rfl⟩
 have hLl:L.length<64:=by rw[hL,leftOf_length];omega
 rw[<-hL] at ho hs h10 hp
 have HO:Hid (ObjAt R ty w b bs.length (stOf bs) (.slice a L.length L.length)):=ho
 have HL:Hid (L=leftOf bs):=hL
 have HC:Hid (cs=cs++([]:List UInt8)):=hc
 have hd:decide ((1048576:Int)-(bs.length:Int)<(cs.length:Int))=false:=by simp;omega
 obtain⟨d1,cd1,w1,hrun,hs1,hb1,_⟩:=append_full w.drew a (some ⟨xb,xo,none⟩) cx L cs (hs.drewN 1) (hxp.drewN 1) (by omega)
 have HR:Hid ((Builtin.append_ #[22,22] 22 #[.slice a L.length L.length,.slice (some ⟨xb,xo,none⟩) cs.length cx]).run Tryz.prog w.drew=.ok (.slice d1 (L.length+cs.length) cd1) w1):=hrun
 have HB1:Hid (Below w.heap.size w w1):=(Below.refl _ _).drew.trans hb1
 have g0:(0:Int)<=(cs.length:Int):=Int.natCast_nonneg _
 have g1:(cs.length:Int)<=(cx:Int):=by omega
 have g2:(cs.length:Int)<=(cs.length:Int):=by omega
 have g3:(cs.length:Int)<=(cx:Int):=by omega
 have HCL:Hid (cs.length=cs.length+([]:List UInt8).length):=hcl
 have hsub:cs.length-cs.length=([]:List UInt8).length:=by omega
 have hmin:(64:Int)-(L.length:Int)=(cs.length:Int):=by omega
 clear hsub
 subst hq
 rw[if_pos rfl,Nat.sub_self] at hxr
 clear ho hL h hc hrun hb1 hs hcl hx hxp HX
 go_enter Tryz.func193,Tryz.ntmps193
 go_wp2_with fail
 refine(stands_yes w b h1).mono ?_
 rintro e w0 ⟨rfl,hw0⟩
 rw[hw0]
 clear hw0 w0
 go_wp2
 go_region_held3 (λw'=>w'.cell? ⟨b,10,none⟩=some (.slice a L.length L.length))
  (first|go_keep|(rw[(HB1.out).cell (p:=⟨b,10,none⟩) (World.block_lt_of_cell? _ _ h10)];exact h10))
  (refine step_append_run rfl _ _ 22 rfl _ _ _ rfl rfl HR.out ?_)
 have ho1:=HO.out.below HB1.out
 have hK1:=hT.below HB1.out
 have HLD1:Hid ((Instr.loadAt 275 (.pointer (some ⟨b,2,none⟩))).run Tryz.prog w1=.ok (.agg (stOf bs).cells) w1):=ho1.loads
 have hxr1:=hxr.below HB1.out
 have h64:(L++cs).length=64:=by rw[List.length_append];exact hp
 have hcall:=mix_any w1 (stOf bs) (stOf_small bs) d1 cd1 (L++cs) hs1 h64 hK1
 have HB1':=HB1.out
 go_wp2_with (refine wpList_load_run rfl 275 _ rfl _ _ rfl HLD1.out ?_)
 refine hcall.mono ?_
 rintro e w2 ⟨rfl,hb2⟩
 have ho2:=ho1.below hb2
 obtain⟨w3,hst3,ho3,hbt3⟩:=ho2.stores (mixS (stOf bs) (L++cs))
 have HST3:Hid ((Instr.storeAt 275 (.pointer (some ⟨b,2,none⟩)) (.agg (mixS (stOf bs) (L++cs)).cells)).run Tryz.prog w2=.ok () w3):=hst3
 have HLD3:Hid ((Instr.loadAt 275 (.pointer (some ⟨b,2,none⟩))).run Tryz.prog w3=.ok (.agg (mixS (stOf bs) (L++cs)).cells) w3):=ho3.loads
 have hxr3:=(hxr1.below hb2).but ho2 (by intro x;simp) hbt3
 have hK3:=(hK1.below hb2).but ho2 hbt3
 have hcall3:=take_any w3 (mixS (stOf bs) (L++cs)) (mixS_small _ _) _ _ ([]:List UInt8) hxr3 hK3
 have HBT3:Hid (But b w w3):=(But.of_below HB1').trans ((But.of_below hb2).trans hbt3)
 clear hcall hst3 hbt3 hb2 ho2 ho1 hK1 hxr1 HLD1 hK3 hxr3 hs1 HR
 obtain⟨T3,hT3⟩:∃ T,T=mixS (stOf bs) (L++cs):=⟨_,rfl⟩
 rw[<-hT3] at ho3 hcall3 HST3 HLD3 ⊢
 have HT3:Hid (T3=mixS (stOf bs) (L++cs)):=hT3
 clear hT3
 go_wp2_with (first|refine wpList_store_run rfl 275 _ _ rfl _ _ rfl rfl HST3.out ?_|refine wpList_load_run rfl 275 _ rfl _ _ rfl HLD3.out ?_)
 refine hcall3.mono ?_
 rintro e w4 ⟨d4,cd4,l,hl,rfl,hs4,hb4⟩
 have ho4:=ho3.below hb4
 obtain⟨T5,hT5⟩:∃ T,T=runB T3 ([]:List UInt8) (([]:List UInt8).length/64):=⟨_,rfl⟩
 rw[<-hT5]
 obtain⟨w5,hst5,ho5,hbt5⟩:=ho4.stores T5
 have HST5:Hid ((Instr.storeAt 275 (.pointer (some ⟨b,2,none⟩)) (.agg T5.cells)).run Tryz.prog w4=.ok () w5):=hst5
 have hs5:=hs4.but ho4 (by intro x;simp) hbt5
 have HT5:Hid (T5=runB T3 ([]:List UInt8) (([]:List UInt8).length/64)):=hT5
 have HBT5:Hid (But b w w5):=HBT3.out.trans ((But.of_below hb4).trans hbt5)
 have hll:l.length<=140737488355328:=by rw[hl.out,List.length_drop];omega
 have hcall5:=clone2_any w5 d4 cd4 l hs5 hll
 have hsz5:w.heap.size<=w5.heap.size:=HBT5.out.size
 clear hcall3 HST3 HLD3 hT5 hst5 hbt5 hb4 ho4 ho3 hs4 hs5 HBT3
 go_wp2_with (refine wpList_store_run rfl 275 _ _ rfl _ _ rfl rfl HST5.out ?_)
 refine hcall5.mono ?_
 rintro e w6 ⟨d6,cd6,rfl,hs6,hb6,hfr6⟩
 have ho6:=ho5.below hb6
 have HBT6:Hid (But b w w6):=HBT5.out.trans (But.of_below hb6)
 clear hcall5 HST5 hb6 ho5 HBT5
 have hfl:=hs6.fits
 have hrl:=hs6.room
 unfold maxLen at hrl
 have c1:=ho6.size
 have c10:=ho6.left
 have f10:=ho6.frozen 10
 have f1:=ho6.frozen 1
 have HO6:Hid (ObjAt R ty w6 b bs.length T5 (.slice a L.length L.length)):=ho6
 clear ho6 h1 h2 h10
 go_wp2
 go_ret
 obtain⟨hst,hlf⟩:=more_many bs cs cs ([]:List UInt8) HC.out (by rw[List.length_append,<-HL.out];exact hp)
 have hleft:leftOf (bs++cs)=l:=by rw[hlf,hl.out]
 have hstate:stOf (bs++cs)=T5:=by rw[hst,HT5.out,HT3.out,HL.out]
 have hO:=(HO6.out.setLeft (.slice d6 l.length l.length)).setSize (bs++cs).length
 have hO2:=hO
 simp only[List.length_append,Int.natCast_add] at hO2
 have hB:But b w6 ((w6.setCell ⟨b,10,none⟩ (.slice d6 l.length l.length)).setCell ⟨b,1,none⟩ (.int .i64 ((bs++cs).length:Int))):=((But.refl b w6).setCell 10 _).setCell 1 _
 have hS:Sees w6 d6 l.length l:=⟨Nat.le_refl _,by have:=hs6.room;have:=hs6.fits;omega,λhn=>by have:=hs6.bare hn;have:=hs6.fits;omega,hs6.at'⟩
 have hS2:=hS.but HO6.out (by intro x;simp) hB
 have hD:Dig R ty ((w6.setCell ⟨b,10,none⟩ (.slice d6 l.length l.length)).setCell ⟨b,1,none⟩ (.int .i64 ((bs++cs).length:Int))) b (bs++cs):=
  ⟨by rw[List.length_append];exact hfit,d6,by rw[hleft,hstate];exact hO,by rw[hleft];exact hS2⟩
 have hall:=HBT6.out.trans hB
 simp only[List.length_append,Int.natCast_add] at hD hall
 exact⟨rfl,hD,hall,d6,by rw[hleft,hstate];exact hO2,λb' off h1 h2=>Nat.le_trans hsz5 (hfr6 b' off h1 (by rw[<-hleft];exact h2))⟩
theorem write2_beven {R:List Value}{ty:TypeId}(w:World)(b:Nat)(bs:List UInt8)(h:Dig R ty w b bs)(xb xo cx:Nat)(cs:List UInt8)(hx:Sees w (some ⟨xb,xo,none⟩) cx cs)(hT:KTab w)(hq:¬ cx=cs.length)(hfit:bs.length+cs.length<=1048576)(hp:(leftOf bs).length+cs.length=64):
  Calls Tryz.prog 193 #[.pointer (some ⟨b,0,none⟩),.slice (some ⟨xb,xo,none⟩) cs.length cx] w λe w'=>e=.returned (.int .i64 0)/\Dig R ty w' b (bs++cs)/\But b w w'/\LeftFree R ty w.heap.size w' b (bs.length+cs.length) (bs++cs):=by
 have hc:cs=cs++([]:List UInt8):=(List.append_nil _).symm
 obtain⟨a,ho,hs⟩:=h.obj
 have h1:=ho.made
 have h2:=ho.size
 have h10:=ho.left
 have hfc:=hx.fits
 have hrc:=hx.room
 unfold maxLen at hrc
 have hcl:cs.length=cs.length+([]:List UInt8).length:=rfl
 have hxp:=hx
 have hxr:=hx.cut cs.length (Nat.le_refl _)
 rw[List.drop_length] at hxr
 have HX:=hx
 obtain⟨L,hL⟩:∃ L,L=leftOf bs:=⟨_,rfl⟩
 have hLl:L.length<64:=by rw[hL,leftOf_length];omega
 rw[<-hL] at ho hs h10 hp
 have HO:Hid (ObjAt R ty w b bs.length (stOf bs) (.slice a L.length L.length)):=ho
 have HL:Hid (L=leftOf bs):=hL
 have HC:Hid (cs=cs++([]:List UInt8)):=hc
 have hd:decide ((1048576:Int)-(bs.length:Int)<(cs.length:Int))=false:=by simp;omega
 obtain⟨d1,cd1,w1,hrun,hs1,hb1,_⟩:=append_full w.drew a (some ⟨xb,xo,none⟩) cx L cs (hs.drewN 1) (hxp.drewN 1) (by omega)
 have HR:Hid ((Builtin.append_ #[22,22] 22 #[.slice a L.length L.length,.slice (some ⟨xb,xo,none⟩) cs.length cx]).run Tryz.prog w.drew=.ok (.slice d1 (L.length+cs.length) cd1) w1):=hrun
 have HB1:Hid (Below w.heap.size w w1):=(Below.refl _ _).drew.trans hb1
 have g0:(0:Int)<=(cs.length:Int):=Int.natCast_nonneg _
 have g1:(cs.length:Int)<=(cx:Int):=by omega
 have g2:(cs.length:Int)<=(cs.length:Int):=by omega
 have g3:(cs.length:Int)<=(cx:Int):=by omega
 have HCL:Hid (cs.length=cs.length+([]:List UInt8).length):=hcl
 have hsub:cs.length-cs.length=([]:List UInt8).length:=by omega
 have hmin:(64:Int)-(L.length:Int)=(cs.length:Int):=by omega
 clear hsub
 rw[if_neg hq] at hxr
 clear ho hL h hc hrun hb1 hs hcl hx hxp HX
 go_enter Tryz.func193,Tryz.ntmps193
 go_wp2_with fail
 refine(stands_yes w b h1).mono ?_
 rintro e w0 ⟨rfl,hw0⟩
 rw[hw0]
 clear hw0 w0
 go_wp2
 go_region_held3 (λw'=>w'.cell? ⟨b,10,none⟩=some (.slice a L.length L.length))
  (first|go_keep|(rw[(HB1.out).cell (p:=⟨b,10,none⟩) (World.block_lt_of_cell? _ _ h10)];exact h10))
  (refine step_append_run rfl _ _ 22 rfl _ _ _ rfl rfl HR.out ?_)
 have ho1:=HO.out.below HB1.out
 have hK1:=hT.below HB1.out
 have HLD1:Hid ((Instr.loadAt 275 (.pointer (some ⟨b,2,none⟩))).run Tryz.prog w1=.ok (.agg (stOf bs).cells) w1):=ho1.loads
 have hxr1:=hxr.below HB1.out
 have h64:(L++cs).length=64:=by rw[List.length_append];exact hp
 have hcall:=mix_any w1 (stOf bs) (stOf_small bs) d1 cd1 (L++cs) hs1 h64 hK1
 have HB1':=HB1.out
 go_wp2_with (refine wpList_load_run rfl 275 _ rfl _ _ rfl HLD1.out ?_)
 refine hcall.mono ?_
 rintro e w2 ⟨rfl,hb2⟩
 have ho2:=ho1.below hb2
 obtain⟨w3,hst3,ho3,hbt3⟩:=ho2.stores (mixS (stOf bs) (L++cs))
 have HST3:Hid ((Instr.storeAt 275 (.pointer (some ⟨b,2,none⟩)) (.agg (mixS (stOf bs) (L++cs)).cells)).run Tryz.prog w2=.ok () w3):=hst3
 have HLD3:Hid ((Instr.loadAt 275 (.pointer (some ⟨b,2,none⟩))).run Tryz.prog w3=.ok (.agg (mixS (stOf bs) (L++cs)).cells) w3):=ho3.loads
 have hxr3:=(hxr1.below hb2).but ho2 (by intro x;simp) hbt3
 have hK3:=(hK1.below hb2).but ho2 hbt3
 have hcall3:=take_any w3 (mixS (stOf bs) (L++cs)) (mixS_small _ _) _ _ ([]:List UInt8) hxr3 hK3
 have HBT3:Hid (But b w w3):=(But.of_below HB1').trans ((But.of_below hb2).trans hbt3)
 clear hcall hst3 hbt3 hb2 ho2 ho1 hK1 hxr1 HLD1 hK3 hxr3 hs1 HR
 obtain⟨T3,hT3⟩:∃ T,T=mixS (stOf bs) (L++cs):=⟨_,rfl⟩
 rw[<-hT3] at ho3 hcall3 HST3 HLD3 ⊢
 have HT3:Hid (T3=mixS (stOf bs) (L++cs)):=hT3
 clear hT3
 go_wp2_with (first|refine wpList_store_run rfl 275 _ _ rfl _ _ rfl rfl HST3.out ?_|refine wpList_load_run rfl 275 _ rfl _ _ rfl HLD3.out ?_)
 refine hcall3.mono ?_
 rintro e w4 ⟨d4,cd4,l,hl,rfl,hs4,hb4⟩
 have ho4:=ho3.below hb4
 obtain⟨T5,hT5⟩:∃ T,T=runB T3 ([]:List UInt8) (([]:List UInt8).length/64):=⟨_,rfl⟩
 rw[<-hT5]
 obtain⟨w5,hst5,ho5,hbt5⟩:=ho4.stores T5
 have HST5:Hid ((Instr.storeAt 275 (.pointer (some ⟨b,2,none⟩)) (.agg T5.cells)).run Tryz.prog w4=.ok () w5):=hst5
 have hs5:=hs4.but ho4 (by intro x;simp) hbt5
 have HT5:Hid (T5=runB T3 ([]:List UInt8) (([]:List UInt8).length/64)):=hT5
 have HBT5:Hid (But b w w5):=HBT3.out.trans ((But.of_below hb4).trans hbt5)
 have hll:l.length<=140737488355328:=by rw[hl.out,List.length_drop];omega
 have hcall5:=clone2_any w5 d4 cd4 l hs5 hll
 have hsz5:w.heap.size<=w5.heap.size:=HBT5.out.size
 clear hcall3 HST3 HLD3 hT5 hst5 hbt5 hb4 ho4 ho3 hs4 hs5 HBT3
 go_wp2_with (refine wpList_store_run rfl 275 _ _ rfl _ _ rfl rfl HST5.out ?_)
 refine hcall5.mono ?_
 rintro e w6 ⟨d6,cd6,rfl,hs6,hb6,hfr6⟩
 have ho6:=ho5.below hb6
 have HBT6:Hid (But b w w6):=HBT5.out.trans (But.of_below hb6)
 clear hcall5 HST5 hb6 ho5 HBT5
 have hfl:=hs6.fits
 have hrl:=hs6.room
 unfold maxLen at hrl
 have c1:=ho6.size
 have c10:=ho6.left
 have f10:=ho6.frozen 10
 have f1:=ho6.frozen 1
 have HO6:Hid (ObjAt R ty w6 b bs.length T5 (.slice a L.length L.length)):=ho6
 clear ho6 h1 h2 h10
 go_wp2
 go_ret
 obtain⟨hst,hlf⟩:=more_many bs cs cs ([]:List UInt8) HC.out (by rw[List.length_append,<-HL.out];exact hp)
 have hleft:leftOf (bs++cs)=l:=by rw[hlf,hl.out]
 have hstate:stOf (bs++cs)=T5:=by rw[hst,HT5.out,HT3.out,HL.out]
 have hO:=(HO6.out.setLeft (.slice d6 l.length l.length)).setSize (bs++cs).length
 have hO2:=hO
 simp only[List.length_append,Int.natCast_add] at hO2
 have hB:But b w6 ((w6.setCell ⟨b,10,none⟩ (.slice d6 l.length l.length)).setCell ⟨b,1,none⟩ (.int .i64 ((bs++cs).length:Int))):=((But.refl b w6).setCell 10 _).setCell 1 _
 have hS:Sees w6 d6 l.length l:=⟨Nat.le_refl _,by have:=hs6.room;have:=hs6.fits;omega,λhn=>by have:=hs6.bare hn;have:=hs6.fits;omega,hs6.at'⟩
 have hS2:=hS.but HO6.out (by intro x;simp) hB
 have hD:Dig R ty ((w6.setCell ⟨b,10,none⟩ (.slice d6 l.length l.length)).setCell ⟨b,1,none⟩ (.int .i64 ((bs++cs).length:Int))) b (bs++cs):=
  ⟨by rw[List.length_append];exact hfit,d6,by rw[hleft,hstate];exact hO,by rw[hleft];exact hS2⟩
 have hall:=HBT6.out.trans hB
 simp only[List.length_append,Int.natCast_add] at hD hall
 exact⟨rfl,hD,hall,d6,by rw[hleft,hstate];exact hO2,λb' off h1 h2=>Nat.le_trans hsz5 (hfr6 b' off h1 (by rw[<-hleft];exact h2))⟩
theorem write2_afew {R:List Value}{ty:TypeId}(w:World)(b:Nat)(bs:List UInt8)(h:Dig R ty w b bs)(xb xo cx:Nat)(cs:List UInt8)(hx:Sees w (some ⟨xb,xo,none⟩) cx cs)(hT:KTab w)(hq:cx=cs.length)(hfit:bs.length+cs.length<=1048576)(hp:(leftOf bs).length+cs.length<64)(hpos:0<cs.length):
  Calls Tryz.prog 193 #[.pointer (some ⟨b,0,none⟩),.slice (some ⟨xb,xo,none⟩) cs.length cx] w λe w'=>e=.returned (.int .i64 0)/\Dig R ty w' b (bs++cs)/\But b w w'/\LeftFree R ty w.heap.size w' b (bs.length+cs.length) (bs++cs):=by
 have hc:cs=cs++([]:List UInt8):=(List.append_nil _).symm
 obtain⟨a,ho,hs⟩:=h.obj
 have h1:=ho.made
 have h2:=ho.size
 have h10:=ho.left
 have hfc:=hx.fits
 have hrc:=hx.room
 unfold maxLen at hrc
 have hcl:cs.length=cs.length+([]:List UInt8).length:=rfl
 have hxp:=hx
 have hxr:=hx.cut cs.length (Nat.le_refl _)
 rw[List.drop_length] at hxr
 have HX:=hx
 obtain⟨L,hL⟩:∃ L,L=leftOf bs:=⟨_,rfl⟩
 have hLl:L.length<64:=by rw[hL,leftOf_length];omega
 rw[<-hL] at ho hs h10 hp
 have HO:Hid (ObjAt R ty w b bs.length (stOf bs) (.slice a L.length L.length)):=ho
 have HL:Hid (L=leftOf bs):=hL
 have HC:Hid (cs=cs++([]:List UInt8)):=hc
 have hd:decide ((1048576:Int)-(bs.length:Int)<(cs.length:Int))=false:=by simp;omega
 obtain⟨d1,cd1,w1,hrun,hs1,hb1,hown⟩:=append_full w.drew a (some ⟨xb,xo,none⟩) cx L cs (hs.drewN 1) (hxp.drewN 1) (by omega)
 have HR:Hid ((Builtin.append_ #[22,22] 22 #[.slice a L.length L.length,.slice (some ⟨xb,xo,none⟩) cs.length cx]).run Tryz.prog w.drew=.ok (.slice d1 (L.length+cs.length) cd1) w1):=hrun
 have hfr1:∀ b' off,d1=some ⟨b',off,none⟩->w.heap.size<=b':=own_free (hown hpos)
 clear hown
 have HB1:Hid (Below w.heap.size w w1):=(Below.refl _ _).drew.trans hb1
 have g0:(0:Int)<=(cs.length:Int):=Int.natCast_nonneg _
 have g1:(cs.length:Int)<=(cx:Int):=by omega
 have g2:(cs.length:Int)<=(cs.length:Int):=by omega
 have g3:(cs.length:Int)<=(cx:Int):=by omega
 have HCL:Hid (cs.length=cs.length+([]:List UInt8).length):=hcl
 have hsub:cs.length-cs.length=([]:List UInt8).length:=by omega
 have hmin:(cs.length:Int)<(64:Int)-(L.length:Int):=by omega
 clear hsub
 subst hq
 rw[if_pos rfl,Nat.sub_self] at hxr
 clear ho hL h hc hrun hb1 hs hcl hx hxp HX
 go_enter Tryz.func193,Tryz.ntmps193
 go_wp2_with fail
 refine(stands_yes w b h1).mono ?_
 rintro e w0 ⟨rfl,hw0⟩
 rw[hw0]
 clear hw0 w0
 go_wp2
 go_region_held3 (λw'=>w'.cell? ⟨b,10,none⟩=some (.slice a L.length L.length))
  (first|go_keep|(rw[(HB1.out).cell (p:=⟨b,10,none⟩) (World.block_lt_of_cell? _ _ h10)];exact h10))
  (refine step_append_run rfl _ _ 22 rfl _ _ _ rfl rfl HR.out ?_)
 have ho1:=HO.out.below HB1.out
 have HBT1:Hid (But b w w1):=But.of_below HB1.out
 have c1:=ho1.size
 have c10:=ho1.left
 have f10:=ho1.frozen 10
 have f1:=ho1.frozen 1
 obtain⟨l,hll⟩:∃ l,l=L++cs:=⟨_,rfl⟩
 have hlen:L.length+cs.length=l.length:=by rw[hll,List.length_append]
 rw[<-hll] at hs1
 have HLL:Hid (l=L++cs):=hll
 have hfl:=hs1.fits
 have hrl:=hs1.room
 unfold maxLen at hrl
 have ht:((l.length:Int)==64)=false:=by simp;omega
 have HO1:Hid (ObjAt R ty w1 b bs.length (stOf bs) (.slice a L.length L.length)):=ho1
 clear ho1 h1 h2 h10 HR hll hxr
 go_wp2
 go_ret
 obtain⟨hst,hlf⟩:=more_few bs cs (by rw[<-HL.out];exact hp)
 have hleft:leftOf (bs++cs)=l:=by rw[hlf,HLL.out,HL.out]
 have hO:=(HO1.out.setLeft (.slice d1 l.length l.length)).setSize (bs++cs).length
 have hO2:=hO
 simp only[List.length_append,Int.natCast_add] at hO2
 have hB:But b w1 ((w1.setCell ⟨b,10,none⟩ (.slice d1 l.length l.length)).setCell ⟨b,1,none⟩ (.int .i64 ((bs++cs).length:Int))):=((But.refl b w1).setCell 10 _).setCell 1 _
 have hS:Sees w1 d1 l.length l:=⟨Nat.le_refl _,by have:=hs1.room;have:=hs1.fits;omega,λhn=>by have:=hs1.bare hn;have:=hs1.fits;omega,hs1.at'⟩
 have hS2:=hS.but HO1.out (by intro x;simp) hB
 have hD:Dig R ty ((w1.setCell ⟨b,10,none⟩ (.slice d1 l.length l.length)).setCell ⟨b,1,none⟩ (.int .i64 ((bs++cs).length:Int))) b (bs++cs):=
  ⟨by rw[List.length_append];exact hfit,d1,by rw[hleft,hst];exact hO,by rw[hleft];exact hS2⟩
 have hall:=HBT1.out.trans hB
 simp only[List.length_append,Int.natCast_add] at hD hall
 exact⟨rfl,hD,hall,d1,by rw[hleft,hst];exact hO2,λb' off h1 _=>hfr1 b' off h1⟩
theorem write2_bfew {R:List Value}{ty:TypeId}(w:World)(b:Nat)(bs:List UInt8)(h:Dig R ty w b bs)(xb xo cx:Nat)(cs:List UInt8)(hx:Sees w (some ⟨xb,xo,none⟩) cx cs)(hT:KTab w)(hq:¬ cx=cs.length)(hfit:bs.length+cs.length<=1048576)(hp:(leftOf bs).length+cs.length<64)(hpos:0<cs.length):
  Calls Tryz.prog 193 #[.pointer (some ⟨b,0,none⟩),.slice (some ⟨xb,xo,none⟩) cs.length cx] w λe w'=>e=.returned (.int .i64 0)/\Dig R ty w' b (bs++cs)/\But b w w'/\LeftFree R ty w.heap.size w' b (bs.length+cs.length) (bs++cs):=by
 have hc:cs=cs++([]:List UInt8):=(List.append_nil _).symm
 obtain⟨a,ho,hs⟩:=h.obj
 have h1:=ho.made
 have h2:=ho.size
 have h10:=ho.left
 have hfc:=hx.fits
 have hrc:=hx.room
 unfold maxLen at hrc
 have hcl:cs.length=cs.length+([]:List UInt8).length:=rfl
 have hxp:=hx
 have hxr:=hx.cut cs.length (Nat.le_refl _)
 rw[List.drop_length] at hxr
 have HX:=hx
 obtain⟨L,hL⟩:∃ L,L=leftOf bs:=⟨_,rfl⟩
 have hLl:L.length<64:=by rw[hL,leftOf_length];omega
 rw[<-hL] at ho hs h10 hp
 have HO:Hid (ObjAt R ty w b bs.length (stOf bs) (.slice a L.length L.length)):=ho
 have HL:Hid (L=leftOf bs):=hL
 have HC:Hid (cs=cs++([]:List UInt8)):=hc
 have hd:decide ((1048576:Int)-(bs.length:Int)<(cs.length:Int))=false:=by simp;omega
 obtain⟨d1,cd1,w1,hrun,hs1,hb1,hown⟩:=append_full w.drew a (some ⟨xb,xo,none⟩) cx L cs (hs.drewN 1) (hxp.drewN 1) (by omega)
 have HR:Hid ((Builtin.append_ #[22,22] 22 #[.slice a L.length L.length,.slice (some ⟨xb,xo,none⟩) cs.length cx]).run Tryz.prog w.drew=.ok (.slice d1 (L.length+cs.length) cd1) w1):=hrun
 have hfr1:∀ b' off,d1=some ⟨b',off,none⟩->w.heap.size<=b':=own_free (hown hpos)
 clear hown
 have HB1:Hid (Below w.heap.size w w1):=(Below.refl _ _).drew.trans hb1
 have g0:(0:Int)<=(cs.length:Int):=Int.natCast_nonneg _
 have g1:(cs.length:Int)<=(cx:Int):=by omega
 have g2:(cs.length:Int)<=(cs.length:Int):=by omega
 have g3:(cs.length:Int)<=(cx:Int):=by omega
 have HCL:Hid (cs.length=cs.length+([]:List UInt8).length):=hcl
 have hsub:cs.length-cs.length=([]:List UInt8).length:=by omega
 have hmin:(cs.length:Int)<(64:Int)-(L.length:Int):=by omega
 clear hsub
 rw[if_neg hq] at hxr
 clear ho hL h hc hrun hb1 hs hcl hx hxp HX
 go_enter Tryz.func193,Tryz.ntmps193
 go_wp2_with fail
 refine(stands_yes w b h1).mono ?_
 rintro e w0 ⟨rfl,hw0⟩
 rw[hw0]
 clear hw0 w0
 go_wp2
 go_region_held3 (λw'=>w'.cell? ⟨b,10,none⟩=some (.slice a L.length L.length))
  (first|go_keep|(rw[(HB1.out).cell (p:=⟨b,10,none⟩) (World.block_lt_of_cell? _ _ h10)];exact h10))
  (refine step_append_run rfl _ _ 22 rfl _ _ _ rfl rfl HR.out ?_)
 have ho1:=HO.out.below HB1.out
 have HBT1:Hid (But b w w1):=But.of_below HB1.out
 have c1:=ho1.size
 have c10:=ho1.left
 have f10:=ho1.frozen 10
 have f1:=ho1.frozen 1
 obtain⟨l,hll⟩:∃ l,l=L++cs:=⟨_,rfl⟩
 have hlen:L.length+cs.length=l.length:=by rw[hll,List.length_append]
 rw[<-hll] at hs1
 have HLL:Hid (l=L++cs):=hll
 have hfl:=hs1.fits
 have hrl:=hs1.room
 unfold maxLen at hrl
 have ht:((l.length:Int)==64)=false:=by simp;omega
 have HO1:Hid (ObjAt R ty w1 b bs.length (stOf bs) (.slice a L.length L.length)):=ho1
 clear ho1 h1 h2 h10 HR hll hxr
 go_wp2
 go_ret
 obtain⟨hst,hlf⟩:=more_few bs cs (by rw[<-HL.out];exact hp)
 have hleft:leftOf (bs++cs)=l:=by rw[hlf,HLL.out,HL.out]
 have hO:=(HO1.out.setLeft (.slice d1 l.length l.length)).setSize (bs++cs).length
 have hO2:=hO
 simp only[List.length_append,Int.natCast_add] at hO2
 have hB:But b w1 ((w1.setCell ⟨b,10,none⟩ (.slice d1 l.length l.length)).setCell ⟨b,1,none⟩ (.int .i64 ((bs++cs).length:Int))):=((But.refl b w1).setCell 10 _).setCell 1 _
 have hS:Sees w1 d1 l.length l:=⟨Nat.le_refl _,by have:=hs1.room;have:=hs1.fits;omega,λhn=>by have:=hs1.bare hn;have:=hs1.fits;omega,hs1.at'⟩
 have hS2:=hS.but HO1.out (by intro x;simp) hB
 have hD:Dig R ty ((w1.setCell ⟨b,10,none⟩ (.slice d1 l.length l.length)).setCell ⟨b,1,none⟩ (.int .i64 ((bs++cs).length:Int))) b (bs++cs):=
  ⟨by rw[List.length_append];exact hfit,d1,by rw[hleft,hst];exact hO,by rw[hleft];exact hS2⟩
 have hall:=HBT1.out.trans hB
 simp only[List.length_append,Int.natCast_add] at hD hall
 exact⟨rfl,hD,hall,d1,by rw[hleft,hst];exact hO2,λb' off h1 _=>hfr1 b' off h1⟩
theorem write2_any {R:List Value}{ty:TypeId}(w:World)(b:Nat)(bs:List UInt8)(h:Dig R ty w b bs)(x:Option Addr)(cx:Nat)(cs:List UInt8)(hx:Sees w x cx cs)(hT:KTab w)(hfit:bs.length+cs.length<=1048576)(h0:cs≠[]):
  Calls Tryz.prog 193 #[.pointer (some ⟨b,0,none⟩),.slice x cs.length cx] w λe w'=>e=.returned (.int .i64 0)/\Dig R ty w' b (bs++cs)/\But b w w'/\LeftFree R ty w.heap.size w' b (bs.length+cs.length) (bs++cs):=by
 obtain⟨xb,xo,rfl,_⟩:=hx.at' h0
 rcases Nat.lt_trichotomy ((leftOf bs).length+cs.length) 64 with hlt|heq|hgt
 ·by_cases hq:cx=cs.length
  ·exact write2_afew w b bs h xb xo cx cs hx hT hq hfit hlt (List.length_pos_iff.2 h0)
  ·exact write2_bfew w b bs h xb xo cx cs hx hT hq hfit hlt (List.length_pos_iff.2 h0)
 ·by_cases hq:cx=cs.length
  ·exact write2_aeven w b bs h xb xo cx cs hx hT hq hfit heq
  ·exact write2_beven w b bs h xb xo cx cs hx hT hq hfit heq
 ·have hl:=leftOf_length bs
  refine write2_many w b bs h xb xo cx cs (cs.take (64-(leftOf bs).length)) (cs.drop (64-(leftOf bs).length)) hx hT hfit (List.take_append_drop _ _).symm ?_ ?_
  ·rw[List.length_take];omega
  ·rw[List.length_drop];omega
theorem write2_zero {R:List Value}{ty:TypeId}(w:World)(b:Nat)(bs:List UInt8)(h:Dig R ty w b bs)(x:Option Addr)(cx:Nat)(hx:Sees w x cx []):
  Calls Tryz.prog 193 #[.pointer (some ⟨b,0,none⟩),.slice x 0 cx] w λe w'=>e=.returned (.int .i64 0)/\Dig R ty w' b bs/\But b w w'/\∃ a,ObjAt R ty w b bs.length (stOf bs) (.slice a (leftOf bs).length (leftOf bs).length)/\ObjAt R ty w' b bs.length (stOf bs) (.slice a (leftOf bs).length (leftOf bs).length):=by
 obtain⟨a,ho,hs⟩:=h.obj
 have hlen:=h.len
 have h1:=ho.made
 have h2:=ho.size
 have h10:=ho.left
 have hrc:=hx.room
 unfold maxLen at hrc
 obtain⟨L,hL⟩:∃ L,L=leftOf bs:=⟨_,rfl⟩
 have hLl:L.length<64:=by rw[hL,leftOf_length];omega
 rw[<-hL] at ho hs h10
 have HO:Hid (ObjAt R ty w b bs.length (stOf bs) (.slice a L.length L.length)):=ho
 have HL:Hid (L=leftOf bs):=hL
 have hd:decide ((1048576:Int)-(bs.length:Int)<(0:Int))=false:=by simp;omega
 have hmin:(0:Int)<(64:Int)-(L.length:Int):=by omega
 have hrun:(Builtin.append_ #[22,22] 22 #[.slice a L.length L.length,.slice x 0 cx]).run Tryz.prog w.drew=.ok (.slice a L.length L.length) w.drew:=by
  obtain⟨i5,hi,hz0,hz1,hz2⟩:=info_parts Tryz.info5
  exact run_append_nothing (P:=Tryz.prog) w.drew 22 22 22 5 i5 Tryz.underlying22 hi a L.length L.length (Nat.le_refl _) (.slice x 0 cx) (by rw[hz1];exact(hx.drewN 1).src)
 have HR:Hid ((Builtin.append_ #[22,22] 22 #[.slice a L.length L.length,.slice x 0 cx]).run Tryz.prog w.drew=.ok (.slice a L.length L.length) w.drew):=hrun
 have c1:=ho.size
 have f10:=ho.frozen 10
 have f1:=ho.frozen 1
 have ht:((L.length:Int)==64)=false:=by simp;omega
 have hfl:=hs.room
 unfold maxLen at hfl
 have hbare:=hx.bare
 clear ho hL h hrun
 have hO:ObjAt R ty ((w.drew.setCell ⟨b,10,none⟩ (.slice a L.length L.length)).setCell ⟨b,1,none⟩ (.int .i64 (bs.length:Int))) b bs.length (stOf bs) (.slice a L.length L.length):=
  ((HO.out.drewN 1).setLeft (.slice a L.length L.length)).setSize bs.length
 have hB:But b w ((w.drew.setCell ⟨b,10,none⟩ (.slice a L.length L.length)).setCell ⟨b,1,none⟩ (.int .i64 (bs.length:Int))):=
  (((But.refl b w).drewN 1).setCell 10 _).setCell 1 _
 have hS:=hs.but HO.out (by intro x;simp) hB
 have hD:Dig R ty ((w.drew.setCell ⟨b,10,none⟩ (.slice a L.length L.length)).setCell ⟨b,1,none⟩ (.int .i64 (bs.length:Int))) b bs:=
  ⟨hlen,a,by rw[<-HL.out];exact hO,by rw[<-HL.out];exact hS⟩
 obtain⟨aa,haa⟩:∃ aa,aa=a:=⟨_,rfl⟩
 have hOO:∃ a,ObjAt R ty w b bs.length (stOf bs) (.slice a (leftOf bs).length (leftOf bs).length)/\ObjAt R ty ((w.drew.setCell ⟨b,10,none⟩ (.slice aa L.length L.length)).setCell ⟨b,1,none⟩ (.int .i64 (bs.length:Int))) b bs.length (stOf bs) (.slice a (leftOf bs).length (leftOf bs).length):=⟨a,by rw[<-HL.out];exact HO.out,by rw[<-HL.out];rw[haa];exact hO⟩
 rw[haa] at hOO
 clear hO hS hs haa
 cases x with
 | none =>
   obtain rfl := hbare rfl
   clear hx
   go_enter Tryz.func193, Tryz.ntmps193
   go_wp2_with fail
   refine (stands_yes w b h1).mono ?_
   rintro e w0 ⟨rfl, hw0⟩
   rw [hw0]
   clear hw0 w0
   go_wp2
   go_region_held3 (fun w' => w'.cell? ⟨b, 10, none⟩ = some (.slice a L.length L.length))
     (first | go_keep)
     (refine step_append_run rfl _ _ 22 rfl _ _ _ rfl rfl HR.out ?_)
   go_wp2
   go_ret
   exact ⟨rfl, hD, hB, hOO⟩
 | some ad =>
   by_cases hq : cx = 0
   · subst hq
     go_enter Tryz.func193, Tryz.ntmps193
     go_wp2_with fail
     refine (stands_yes w b h1).mono ?_
     rintro e w0 ⟨rfl, hw0⟩
     rw [hw0]
     clear hw0 w0
     go_wp2
     go_region_held3 (fun w' => w'.cell? ⟨b, 10, none⟩ = some (.slice a L.length L.length))
       (first | go_keep)
       (refine step_append_run rfl _ _ 22 rfl _ _ _ rfl rfl HR.out ?_)
     go_wp2
     go_ret
     exact ⟨rfl, hD, hB, hOO⟩
   · have gq : (0 : Int) ≤ (cx : Int) := Int.natCast_nonneg _
     go_enter Tryz.func193, Tryz.ntmps193
     go_wp2_with fail
     refine (stands_yes w b h1).mono ?_
     rintro e w0 ⟨rfl, hw0⟩
     rw [hw0]
     clear hw0 w0
     go_wp2
     go_region_held3 (fun w' => w'.cell? ⟨b, 10, none⟩ = some (.slice a L.length L.length))
       (first | go_keep)
       (refine step_append_run rfl _ _ 22 rfl _ _ _ rfl rfl HR.out ?_)
     go_wp2
     go_ret
     exact ⟨rfl, hD, hB, hOO⟩
theorem ObjAt.same {R:List Value}{ty:TypeId}{w:World}{b n m k l:Nat}{s t:S8}{a c:Option Addr}(h1:ObjAt R ty w b n s (.slice a k k))(h2:ObjAt R ty w b m t (.slice c l l)):a=c:=by
 have h3:=h1.left
 rw[h2.left] at h3
 simp only[Option.some.injEq,Value.slice.injEq] at h3
 exact h3.1.symm
end Go.Proofs.YthogohkieiogiaaGreatDoor
