/-
  The contracts of kdf's Extract, isNode, Own, Pair, derive, Step and Mac, out of Key's.

  Key: the info is collected in a range over the parts.

  What package kdf must say, all of it.
  The contracts of kdf.Step, of the program and of the document.
  The contracts of hmac.Short, of the program and of the document.
  The contracts of word.Same and of what it gathers.
-/
import Derived.Test.YthogohkieiogiaaGreatDoorKdfA
import Derived.Test.YthogohkieiogiaaGreatDoorRows
import Derived.Deep.QuietTactic
import Derived.BigQuiet
namespace Go.Proofs.YthogohkieiogiaaGreatDoor
set_option maxRecDepth 100000
set_option maxHeartbeats 4000000
open Go.ChangeShapes Go.WideShapes Go.ChangeAt Go.RowKit
theorem derive_any (HKY:KkeyOk)(w:World)(a:Option Addr)(ca:Nat)(key name:List UInt8)(hn:name.length<=9223372036854775807)(hF:FTab w)(hT:KTab w)(ha:Sees w a ca key):Calls Tryz.prog 146 #[.slice a key.length ca,.string ⟨name.toArray⟩] w λe w'=>Says w w' e (if key.length=16 then keyP key name [] else ([],1)):=by
 have hkm:key.length<=9223372036854775807:=by have:=ha.fits;have:=ha.room;unfold maxLen at this;omega
 by_cases h:key.length=16
 ·rw[if_pos h]
  have hk:Calls Tryz.prog 93 #[.slice a key.length ca,.string ⟨name.toArray⟩,.slice none 0 0] w _:=HKY w a ca key name none 0 [] hn hF hT ha (Longs.none' w)
  have dd:((key.length:Int) != 16)=false:=by simp;omega
  clear h ha hF hT
  go_enter Tryz.func146,Tryz.ntmps146
  go_wp2_with fail
  refine hk.mono ?_
  rintro e w5 ⟨d5,c5,r5,hr5,rfl,hs5,hb5⟩
  clear hk
  go_wp2
  go_ret2
  exact⟨d5,c5,r5,hr5,rfl,hs5,hb5⟩
 ·rw[if_neg h]
  have dd:((key.length:Int) != 16)=true:=by simp;omega
  clear h ha hF hT
  go_enter Tryz.func146,Tryz.ntmps146
  go_wp2
  go_ret2
  exact Says.nothing 1 (Below.refl _ _)
theorem mac_any (HKY:KkeyOk)(w:World)(a:Option Addr)(ca:Nat)(key:List UInt8)(hF:FTab w)(hT:KTab w)(ha:Sees w a ca key):Calls Tryz.prog 104 #[.slice a key.length ca] w λe w'=>Says w w' e (macP key):=by
 have hd:Calls Tryz.prog 146 #[.slice a key.length ca,.string { data:=#[109,97,99] }] w λe w'=>Says w w' e (macP key):=derive_any HKY w a ca key macN (by simp[macN]) hF hT ha
 obtain⟨PP,hPP⟩:∃ P,P=macP key:=⟨_,rfl⟩
 rw[<-hPP] at hd ⊢
 clear hPP ha hF hT
 go_enter Tryz.func104,Tryz.ntmps104
 go_wp2_with fail
 refine hd.mono ?_
 rintro e w5 ⟨d5,c5,r5,hr5,rfl,hs5,hb5⟩
 clear hd
 go_wp2
 go_ret2
 exact⟨d5,c5,r5,hr5,rfl,hs5,hb5⟩
open Go.ChangeShapes Go.WideShapes Go.ChangeAt Go.RowKit Go.Shelf
attribute [local go_sem] Oper.semAt_some
theorem wpListIn_append_run {F:Fence}{n:Nat}{P:Program}{w w':World}{ops:Array Oper}{rest:List Oper}{o:Oper}{a:Act}{Q:Exit->Act->World->Prop}(hgd:o.guard=none)(s x:Operand)(t:TypeId)(ho:o.op=.call { callee:=.builtin .append,args:=#[s,x],argTypes:=#[t,t] })(v u r:Value)(hs:a.eval s=v)(hx:a.eval x=u)(hrun:(Builtin.append_ #[t,t] o.type #[v,u]).run P w=.ok r w')(h:wpListIn F n P ops Q rest (a.put o.dst r) w'):wpListIn F n P ops Q (o::rest) a w:=by
 refine wpListIn_plain hgd λK hK=>?_
 unfold Oper.wpIn
 refine⟨by simp[Oper.about,ho,resolve,Target.leads,Sem.run_pure],?_⟩
 rw[Oper.semAt_plain F _ _ (by rw[ho];intro c hc;cases hc)]
 simp[execOp,ho,resolve,invoke,builtin,hs,hx,hrun,Result.andThen]
 exact hK _ _ h
theorem collect_step (W:World)(n0 bI:Nat)(v:Value)(acc:List UInt8)(x:Option Addr)(cx:Nat)(cs:List UInt8)(hbox:Boxed W bI 22 v)(hown:W.ownsRow n0 5 1 v acc.length (acc.map cellOf))(hx:Sees W x cx cs)(hb:acc.length+cs.length<=140737488355328)(hn0:n0<=W.heap.size):
  ∃ d cd W1, (Builtin.append_ #[22, 22] 22 #[v, .slice x cs.length cx]).run Tryz.prog W = .ok (.slice d (acc ++ cs).length cd) W1 ∧ Boxed W1 bI 22 v ∧
    Boxed (W1.setCell ⟨bI, 0, none⟩ (.slice d (acc ++ cs).length cd)) bI 22 (.slice d (acc ++ cs).length cd) ∧
    (W1.setCell ⟨bI, 0, none⟩ (.slice d (acc ++ cs).length cd)).ownsRow n0 5 1 (.slice d (acc ++ cs).length cd) (acc ++ cs).length ((acc ++ cs).map cellOf) ∧
    KeepsOthers W (W1.setCell ⟨bI, 0, none⟩ (.slice d (acc ++ cs).length cd)) ∧
    (∀ b t u, Boxed W b t u → t ≠ 5 → b ≠ bI → Boxed (W1.setCell ⟨bI, 0, none⟩ (.slice d (acc ++ cs).length cd)) b t u) ∧
    (∀ n w, Below n w W → n ≤ n0 → n ≤ bI → Below n w (W1.setCell ⟨bI, 0, none⟩ (.slice d (acc ++ cs).length cd))) := by
 obtain⟨i5,hi,hz0,hz1,hz2⟩:=info_parts Tryz.info5
 by_cases h0:cs=[]
 ·subst h0
  obtain⟨d,cd,rfl,hs⟩:=Sees.of_own hown
  have:=run_append_nothing (P:=Tryz.prog) W 22 22 22 5 i5 Tryz.underlying22 hi d acc.length cd hs.fits (.slice x 0 cx) (by rw[hz1];exact hx.src)
  rw[List.append_nil]
  exact⟨d,cd,W,this,hbox,hbox.set _,hown.kept (grownBy_setCell' W bI _) (.inr (hbox.not_row (by decide) hown).symm),KeepsOthers.setCell _ _ _,
   λb t u h _ hne=>h.kept (grownBy_setCell' W bI _) (by simp[hne]),λn w h _ hB=>h.setCell (p:=⟨bI,0,none⟩) hB _⟩
 ·obtain⟨ad,rfl⟩:∃ ad,x=some ad:=by obtain⟨b,off,h,_⟩:=hx.at' h0;exact⟨_,h⟩
  obtain⟨v',w',hrun,ho',hg,_⟩:=run_append_own (P:=Tryz.prog) W n0 22 22 5 i5 (.int .u8 0) 1 1 Tryz.underlying22 hi hz0 hz1 hz2 rfl (by omega) v acc.length (acc.map cellOf) hown ad cs.length cx (cs.map cellOf) (by simp) (hx.news ad rfl) (bytes_oneCell cs) (by unfold maxLen;omega) (by omega) hn0
  have ho2:w'.ownsRow n0 5 1 v' (acc++cs).length ((acc++cs).map cellOf):=by simpa using ho'
  obtain⟨d,cd,rfl,_⟩:=Sees.of_own ho2
  have hb1:Boxed w' bI 22 v:=hbox.kept hg (hbox.not_row (by decide) hown)
  refine⟨d,cd,w',hrun,hb1,hb1.set _,ho2.kept (grownBy_setCell' w' bI _) (.inr (hb1.not_row (by decide) ho2).symm),?_,?_,?_⟩
  ·refine(KeepsOthers.of_grownBy hg λj o ej hj=>?_).trans (KeepsOthers.setCell _ _ _)
   rcases hown.2 with ⟨rfl,_⟩|⟨g,cap,cur,rfl,_,hgb,_⟩
   ·simp[Value.ownBlock] at ej
   ·obtain rfl:g=j:=by simpa [Value.ownBlock] using ej
    rw[hgb] at hj;cases hj;rfl
  ·intro b t u h ht hne
   exact(h.kept hg (h.not_row ht hown)).kept (grownBy_setCell' w' bI _) (by simp[hne])
  ·intro n w h hn hB
   exact(h.grown hg (Nat.le_trans hn hn0) (λk hk=>Nat.le_trans hn (hown.lt _ hk).1)).setCell (p:=⟨bI,0,none⟩) hB _
theorem parts0_in (s:ByteArray)(v:Value)(a:Option Addr)(k c:Nat)(hv:v=.slice a k c)(w:World):
  Calls Tryz.prog 137 #[.string s,v] w λe w'=>e=.returned (.func (.func 167) #[] #[.pointer (some ⟨w.heap.size,0,none⟩),.pointer (some ⟨w.heap.size+1,0,none⟩)])/\w'=(w.alloc (.cells #[.string s] 9)).alloc (.cells #[v] 115):=by
 subst hv
 have hmf:∀ (fn:Fn) (first cap:Array Value) (w:World),(Instr.makeFunc fn first cap).run Tryz.prog w=.ok (.func fn first cap) w:=λ_ _ _ _=>rfl
 go_enter Tryz.func137,Tryz.ntmps137
 go_wp2
 go_ret
 exact⟨rfl,rfl⟩
theorem Sees.put {W:World}{a:Option Addr}{cap:Nat}{bs:List UInt8}(h:Sees W a cap bs){l:Nat}{o:Obj}(o':Obj)(hl:W.heap[l]?=some o)(ho:o.isCells=false):Sees (W.putObj l o') a cap bs:=
 ⟨h.fits, h.room, h.bare, fun hne => by
   obtain ⟨b, off, ha, hc⟩ := h.at' hne
   refine ⟨b, off, ha, fun i x hx => ?_⟩
   have h1 := hc i x hx
   obtain ⟨q, hq, hqc⟩ := cells_of_cell h1
   have hne2 : b ≠ l := by rintro rfl; rw [hl] at hq; cases hq; rw [ho] at hqc; cases hqc
   rw [World.cell?_of_block (w := W) (a := ⟨b, off + i, none⟩) (World.putObj_heap_other hne2), h1]⟩
def KI (w:World)(name:List UInt8)(c:Option Addr)(cc:Nat)(L:List Nat)(acc:List UInt8)(W:World):Prop:=
 (∃ v,Boxed W w.heap.size 22 v/\W.ownsRow w.heap.size 5 1 v acc.length (acc.map cellOf))/\Boxed W (w.heap.size+1) 9 (.string ⟨name.toArray⟩)/\Boxed W (w.heap.size+1+1) 115 (.slice c L.length cc)/\Below w.heap.size w W
theorem KI.turned {w:World}{name:List UInt8}{c:Option Addr}{cc:Nat}{L:List Nat}{acc:List UInt8}{W W':World}{B:Nat}(h:KI w name c cc L acc W)(hB:w.heap.size<=B)(ht:Turned B W W'):KI w name c cc L acc W':=by
 obtain⟨⟨v,hv,hr⟩,h2,h3,h4⟩:=h
 exact⟨⟨v,ht.boxed hv,ht.owns hr⟩,ht.boxed h2,ht.boxed h3,ht.below h4 hB⟩
theorem KI.below {w:World}{name:List UInt8}{c:Option Addr}{cc:Nat}{L:List Nat}{acc:List UInt8}{W W':World}(h:KI w name c cc L acc W)(hb:Below W.heap.size W W'):KI w name c cc L acc W':=by
 obtain⟨⟨v,hv,hr⟩,h2,h3,h4⟩:=h
 exact⟨⟨v,Boxed.below hv hb,own_keepB hr hb⟩,Boxed.below h2 hb,Boxed.below h3 hb,h4.trans (hb.mono h4.size)⟩
theorem key_yes (HEX:KexpandOk)(w0:World)(a:Option Addr)(ca:Nat)(key:List UInt8)(name:List UInt8)(c:Option Addr)(cc:Nat)(L:List Nat)(hF0:FTab w0)(hT0:KTab w0)(ha0:Sees w0 a ca key)(hL0:Longs w0 c cc L)(hnm:labelL name=true)(hk:key.length<=1000)(hL16:L.length<=16):
  Calls Tryz.prog 93 #[.slice a key.length ca,.string ⟨name.toArray⟩,.slice c L.length cc] w0 λe w'=>Says w0 w' e (keyOf key name L,0):=by
 have hn64:=labelL_len hnm
 have hlab:=isLabel_any name (by omega) w0
 rw[hnm] at hlab
 have HF0:Hid (FTab w0):=hF0
 have HT0:Hid (KTab w0):=hT0
 have HA0:Hid (Sees w0 a ca key):=ha0
 have HL0:Hid (Longs w0 c cc L):=hL0
 have d1:decide ((16:Int)<(L.length:Int))=false:=by simp;omega
 have d2:decide ((1000:Int)<(key.length:Int))=false:=by simp;omega
 clear hF0 hT0 ha0 hL0 hnm
 refine(callsIn_wide (n:=9)).1 ?_
 refine callsIn_of_wp_marks Tryz.func93 rfl trivial ?_ rfl
 simp only[Tryz.ntmps93,List.size_toArray,List.length_cons,List.length_nil,Nat.reduceAdd,Nat.reduceSub,Array.replicate_succ,Array.replicate_zero,List.push_toArray,List.append_toArray,List.nil_append,List.cons_append]
 gi_wp2
 refine⟨trivial,(callsIn_wide.2 hlab).mono ?_⟩
 rintro e w ⟨rfl,hw0⟩
 have HF:Hid (FTab w):=HF0.out.below hw0
 have HT:Hid (KTab w):=HT0.out.below hw0
 have HA:Hid (Sees w a ca key):=HA0.out.below hw0
 have HL:Hid (Longs w c cc L):=HL0.out.below hw0
 have hpar:=parts0_in ⟨name.toArray⟩ _ c L.length cc rfl (w.alloc (.cells #[.slice none 0 0] 22))
 rw[World.size_alloc] at hpar
 clear hlab HF0 HT0 HA0 HL0
 gi_wp2
 refine⟨trivial,(callsIn_wide.2 hpar).mono ?_⟩
 rintro e w' ⟨rfl,hw'⟩
 rw[hw']
 clear hpar hw' w'
 gi_wp2
 obtain⟨W0,hW0⟩:∃ W0,W0=((w.alloc (.cells #[.slice none 0 0] 22)).alloc (.cells #[.string ⟨name.toArray⟩] 9)).alloc (.cells #[.slice c L.length cc] 115):=⟨_,rfl⟩
 have hsz:W0.heap.size=w.heap.size+3:=by rw[hW0];simp
 have hB0:Below w.heap.size w W0:=by rw[hW0];exact(((Below.refl _ w).alloc (Nat.le_refl _) _).alloc (by simp) _).alloc (by simp;omega) _
 have hI0:KI w name c cc L [] W0:=by
  refine⟨⟨_,?_,World.ownsRow_nil _ _ _ _⟩,?_,?_,hB0⟩
  ·rw[hW0];exact((Boxed.new w 22 _).alloc _).alloc _
  ·have:=Boxed.new (w.alloc (.cells #[.slice none 0 0] 22)) 9 (.string ⟨name.toArray⟩)
   rw[World.size_alloc] at this
   rw[hW0];exact this.alloc _
  ·have:=Boxed.new ((w.alloc (.cells #[.slice none 0 0] 22)).alloc (.cells #[.string ⟨name.toArray⟩] 9)) 115 (.slice c L.length cc)
   rw[World.size_alloc,World.size_alloc] at this
   rw[hW0];exact this
 rw[<-hW0]
 clear hW0
 refine range_pre 167 #[.pointer (some ⟨w.heap.size+1,0,none⟩),.pointer (some ⟨w.heap.size+1+1,0,none⟩)] rfl (enters_of Tryz.func167 (by kernel_rfl) rfl)
  (λx:Part=>#[.slice x.1 x.2.2.length x.2.1]) (λ_=>rfl) (KI w name c cc L) (λacc x W=>KI w name c cc L acc W/\Sees W x.1 x.2.1 x.2.2/\x.2.2.length<=1000/\acc.length<=2000) (λacc x=>acc++x.2.2) (λ_ _ _=>False)
  (λacc=>acc=infoL name L) ?fI ?fP (λ_ _ _ _ h _=>h)
  (λx=>{ tmps:=#[.slice a key.length ca,.string ⟨name.toArray⟩,.slice c L.length cc,undef,undef,undef,.slice none 0 0,.int .i64 0,.pointer (some ⟨w.heap.size,0,none⟩),.slice x.1 x.2.2.length x.2.1,.string ⟨name.toArray⟩,.bool true,.bool false,.bool false,.slice c L.length cc,.int .i64 (L.length:Int),.bool false,.bool false,.slice a key.length ca,.int .i64 (key.length:Int),.bool false,.string ⟨name.toArray⟩,.slice c L.length cc,.func (.func 167) #[] #[.pointer (some ⟨w.heap.size+1,0,none⟩),.pointer (some ⟨w.heap.size+1+1,0,none⟩)],.slice x.1 x.2.2.length x.2.1,undef,undef,undef,undef,undef,undef,undef,undef],defers:=[] })
  ?assign ?body ?iter (λ_ _ _ _ h _=>h) ?done (λ_ _ _ _ _ h _=>h.elim)
 case fI=>exact λacc W W' h ht=>h.turned (by omega) ht
 case fP=>exact λacc x W W' ⟨h1,h2,h3⟩ ht=>⟨h1.turned (by omega) ht,ht.sees h2,h3⟩
 case assign=>
  intro l x W K hK
  gi_wp2
  exact hK
 case body=>
  rintro l acc x W ⟨⟨⟨v,hv,hrow⟩,hS,hLb,hB⟩,hx,hx1,hacc⟩
  obtain⟨d,cd,W1,hrun,b1,b2,b3,b4,b5,b6⟩:=collect_step W w.heap.size w.heap.size v acc x.1 x.2.1 x.2.2 hv hrow hx (by omega) hB.size
  have hc0:=hv.cell
  have hc1:=b1.cell
  have hf1:=b1.frozen
  show Code.wpIn _ _ _ _ (roundEnds W0.heap.size (KI w name c cc L) (λ_ _ _=>False) (acc++x.2.2) W) _ _
  obtain⟨A,hA⟩:∃ A,A=acc++x.2.2:=⟨_,rfl⟩
  rw[<-hA] at hrun b2 b3 b4 b5 b6 ⊢
  have HRN:Hid ((Builtin.append_ #[22,22] 22 #[v,.slice x.1 x.2.2.length x.2.1]).run Tryz.prog W=.ok (.slice d A.length cd) W1):=hrun
  have HEND:Hid (KeepsFrom W0.heap.size W (W1.setCell ⟨w.heap.size,0,none⟩ (.slice d A.length cd))/\KI w name c cc L A (W1.setCell ⟨w.heap.size,0,none⟩ (.slice d A.length cd))):=
   ⟨b4.from _,⟨_,b2,b3⟩,b5 _ _ _ hS (by decide) (by omega),b5 _ _ _ hLb (by decide) (by omega),b6 _ _ hB (Nat.le_refl _) (Nat.le_refl _)⟩
  clear hrun b1 b2 b3 b4 b5 b6 hv hrow hS hLb hB hx hI0 hA
  gi_wp2_with (refine wpListIn_append_run rfl _ _ 22 rfl _ _ _ rfl rfl HRN.out ?_)
  exact HEND.out
 case iter=>
  intro l W1 hB1 hs1 hl Bk Bx kB hY kX hBk
  have hI1:KI w name c cc L [] W1:=hI0.below hB1
  refine parts_in 8 l _ _ name (by omega) c cc L hL16 (KI w name c cc L) (λacc W W' h hb=>h.below hb) (λacc W h=>⟨h.2.1.cell,h.2.2.1.cell,HL.out.below h.2.2.2⟩) Bk Bx kB hY W1 hBk hI1
 case done=>
  rintro D acc W hD rfl ⟨⟨v,hv,hrow⟩,hS,hLb,hB⟩ hK
  obtain⟨d,cd,rfl,hs⟩:=Sees.of_own hrow
  have hc0:=hv.cell
  have hex:=HEX W a ca key d cd (infoL name L) 16 (HF.out.below hB) (HT.out.below hB) (HA.out.below hB) hs (by omega)
  have hil:(infoL name L).length<=193:=by simp[infoL,longsL_length];omega
  have hP:expandP key (infoL name L) 16=(keyOf key name L,0):=by
   unfold expandP keyOf;rw[if_neg (by omega),if_neg (by omega)];rfl
  rw[hP] at hex
  have HK:Hid (W.heap[D]?=some (.deferred (some []))):=hK
  clear hv hrow hS hLb hs hK hil hP hI0
  gi_wp2
  refine⟨trivial,(callsIn_wide.2 hex).mono ?_⟩
  rintro e w3 ⟨d3,c3,r3,hr3,rfl,hs3,hb3⟩
  have hK3:w3.heap[D]?=some (.deferred (some [])):=by rw[hb3.block D (Array.getElem?_eq_some_iff.1 HK.out).1];exact HK.out
  clear hex
  gi_wp2
  refine⟨by simp,.inl ⟨_,_,rfl,run_takeDeferred hK3,?_⟩⟩
  have hbel:Below w0.heap.size w0 w3:=(hw0.trans (hB.mono hw0.size)).trans (hb3.mono (hw0.trans (hB.mono hw0.size)).size)
  exact⟨_,results_tmp2 rfl _ _ _,d3,c3,r3,hr3,rfl,hs3.put _ hK3 rfl,hbel.trans (belowK_b (w:=w0) (Nat.le_refl _) w3 D _ _ (by have:=hw0.size;omega) hK3 rfl rfl)⟩
theorem key_any (HEX:KexpandOk):KkeyOk:=by
 intro w a ca key name c cc L hn hF hT ha hL
 have hkm:key.length<=9223372036854775807:=by have:=ha.fits;have:=ha.room;unfold maxLen at this;omega
 have hLm:L.length<=9223372036854775807:=by have:=hL.fits;have:=hL.room;unfold maxLen at this;omega
 have hlab:=isLabel_any name hn w
 cases h1:labelL name with
 | false =>
   have hE : keyP key name L = ([], 1) := by unfold keyP; rw [if_pos (.inl h1)]
   rw [hE]
   rw [h1] at hlab
   clear hE h1 ha hL hF hT
   refine (callsIn_wide (n := 9)).1 ?_
   refine callsIn_of_wp_marks Tryz.func93 rfl trivial ?_ rfl
   simp only [Tryz.ntmps93, List.size_toArray, List.length_cons, List.length_nil, Nat.reduceAdd, Nat.reduceSub, Array.replicate_succ, Array.replicate_zero, List.push_toArray, List.append_toArray, List.nil_append, List.cons_append]
   gi_wp2
   refine ⟨trivial, (callsIn_wide.2 hlab).mono ?_⟩
   rintro e w1 ⟨rfl, hw1⟩
   clear hlab
   gi_wp2
   exact ⟨_, results_tmp2 rfl _ _ _, none, 0, [], rfl, rfl, Sees.nil' _, hw1⟩
 | true =>
   by_cases h2 : 16 < L.length
   · have hE : keyP key name L = ([], 1) := by unfold keyP; rw [if_pos (.inr h2)]
     rw [hE]
     rw [h1] at hlab
     have d1 : (16 : Int) < (L.length : Int) := by omega
     clear hE h1 ha hL hF hT
     refine (callsIn_wide (n := 9)).1 ?_
     refine callsIn_of_wp_marks Tryz.func93 rfl trivial ?_ rfl
     simp only [Tryz.ntmps93, List.size_toArray, List.length_cons, List.length_nil, Nat.reduceAdd, Nat.reduceSub, Array.replicate_succ, Array.replicate_zero, List.push_toArray, List.append_toArray, List.nil_append, List.cons_append]
     gi_wp2
     refine ⟨trivial, (callsIn_wide.2 hlab).mono ?_⟩
     rintro e w1 ⟨rfl, hw1⟩
     clear hlab
     gi_wp2
     exact ⟨_, results_tmp2 rfl _ _ _, none, 0, [], rfl, rfl, Sees.nil' _, hw1⟩
   by_cases h3 : 1000 < key.length
   · have hE : keyP key name L = ([], 2) := by unfold keyP; rw [if_neg (by simp [h1]; omega), if_pos h3]
     rw [hE]
     rw [h1] at hlab
     have d1 : decide ((16 : Int) < (L.length : Int)) = false := by simp; omega
     have d2 : (1000 : Int) < (key.length : Int) := by omega
     clear hE h1 ha hL hF hT
     refine (callsIn_wide (n := 9)).1 ?_
     refine callsIn_of_wp_marks Tryz.func93 rfl trivial ?_ rfl
     simp only [Tryz.ntmps93, List.size_toArray, List.length_cons, List.length_nil, Nat.reduceAdd, Nat.reduceSub, Array.replicate_succ, Array.replicate_zero, List.push_toArray, List.append_toArray, List.nil_append, List.cons_append]
     gi_wp2
     refine ⟨trivial, (callsIn_wide.2 hlab).mono ?_⟩
     rintro e w1 ⟨rfl, hw1⟩
     clear hlab
     gi_wp2
     exact ⟨_, results_tmp2 rfl _ _ _, none, 0, [], rfl, rfl, Sees.nil' _, hw1⟩
   have hE : keyP key name L = (keyOf key name L, 0) := by unfold keyP; rw [if_neg (by simp [h1]; omega), if_neg h3]
   rw [hE]
   exact key_yes HEX w a ca key name c cc L hF hT ha hL h1 (by omega) (by omega)
theorem key_ok:KkeyOk:=key_any expand_any
theorem mac_ok:KmacOk:=mac_any key_ok
theorem step_any (HKY:KkeyOk)(w:World)(a:Option Addr)(ca:Nat)(key:List UInt8)(hF:FTab w)(hT:KTab w)(ha:Sees w a ca key):Calls Tryz.prog 173 #[.slice a key.length ca] w λe w'=>Says w w' e (stepP key):=by
 have hd:Calls Tryz.prog 146 #[.slice a key.length ca,.string { data:=#[99,104,97,105,110] }] w λe w'=>Says w w' e (stepP key):=derive_any HKY w a ca key chainN (by simp[chainN]) hF hT ha
 obtain⟨PP,hPP⟩:∃ P,P=stepP key:=⟨_,rfl⟩
 rw[<-hPP] at hd ⊢
 clear hPP ha hF hT
 go_enter Tryz.func173,Tryz.ntmps173
 go_wp2_with fail
 refine hd.mono ?_
 rintro e w5 ⟨d5,c5,r5,hr5,rfl,hs5,hb5⟩
 clear hd
 go_wp2
 go_ret2
 exact⟨d5,c5,r5,hr5,rfl,hs5,hb5⟩
theorem rstep_any (w:World)(a:Option Addr)(ca:Nat)(key:List UInt8)(ha:Sees w a ca key):Calls Tryz.prog 23 #[.slice a key.length ca] w λe w'=>Says w w' e (stepP key):=by
 have hkm:key.length<=9223372036854775807:=by have:=ha.fits;have:=ha.room;unfold maxLen at this;omega
 by_cases h:key.length=16
 ·have hE:stepP key=keyP key chainN []:=by unfold stepP;rw[if_pos h]
  rw[hE]
  have hk:Calls Tryz.prog 22 #[.slice a key.length ca,.string { data:=#[99,104,97,105,110] },.slice none 0 0] w _:=rkey_any w a ca key chainN (by simp[chainN]) none 0 [] ha (Longs.none' w)
  have dd:((key.length:Int) != 16)=false:=by simp;omega
  clear hE h ha
  go_enter Tryz.func23,Tryz.ntmps23
  go_wp2_with fail
  refine hk.mono ?_
  rintro e w5 ⟨d5,c5,r5,hr5,rfl,hs5,hb5⟩
  clear hk
  go_wp2
  go_ret2
  exact⟨d5,c5,r5,hr5,rfl,hs5,hb5⟩
 ·have hE:stepP key=([],1):=by unfold stepP;rw[if_neg h]
  rw[hE]
  have dd:((key.length:Int) != 16)=true:=by simp;omega
  clear hE h ha
  go_enter Tryz.func23,Tryz.ntmps23
  go_wp2
  go_ret2
  exact Says.nothing 1 (Below.refl _ _)
def Fresh (w w':World)(d:Option Addr):Prop:=∃ g off,d=some ⟨g,off,none⟩/\w.heap.size<=g/\∀ i,w'.frozen? ⟨g,i,none⟩=false
def HshortOk:Prop:=∀ (w:World) (a:Option Addr) (ca:Nat) (key:List UInt8) (b:Option Addr) (cb:Nat) (bs:List UInt8) (n:Nat),FTab w->KTab w->Sees w a ca key->Sees w b cb bs->key.length<=2000->bs.length<=10000->1<=n->n<=32 ->
 Calls Tryz.prog 106 #[.slice a key.length ca,.slice b bs.length cb,.int .i64 (n:Int)] w λe w'=>∃ d cd r,Hid (r=(hmacL key bs).take n)/\e=.returned (.tuple #[.slice d n cd,.int .i64 0])/\r.length=n/\Sees w' d cd r/\Below w.heap.size w w'/\Fresh w w' d
theorem fresh_of_own {w w':World}{d:Option Addr}{cd n:Nat}{r:List UInt8}(h:w'.ownsRow w.heap.size 5 1 (.slice d n cd) r.length (r.map cellOf))(h0:r≠[]):Fresh w w' d:=by
 rcases h.2 with ⟨h1,h2⟩|⟨g,cap,cur,hv,hlow,hg,_⟩
 ·exact absurd (List.eq_nil_of_length_eq_zero h2) h0
 ·simp only[Value.slice.injEq] at hv
  exact⟨g,0,hv.1,hlow,λi=>frozen_of_row w' g i _ _ hg⟩
theorem hshort_ok:HshortOk:=by
 intro w a ca key b cb bs n hF hT ha hb hk hl h1 h32
 have hof:=hof_own w a ca key b cb bs hF hT ha hb (by omega) (by omega)
 have d1:decide ((n:Int)<1)=false:=by simp;omega
 have d2:decide ((32:Int)<(n:Int))=false:=by simp;omega
 clear hF hT ha hb
 go_enter Tryz.func106,Tryz.ntmps106
 go_wp2_with fail
 refine hof.mono ?_
 rintro e w1 ⟨d,cd,r,hr,rfl,hs1,hb1,ho1⟩
 have hrl:r.length=32:=by rw[hr.out];exact hmacL_length _ _
 have hfr:Fresh w w1 d:=fresh_of_own ho1 (by intro h;rw[h] at hrl;cases hrl)
 obtain⟨g,off,rfl,hg1,hg2⟩:=hfr
 have hse:=hs1.take n
 have hnl:(r.take n).length=n:=by rw[List.length_take];omega
 have hse2:Sees w1 (some ⟨g,off,none⟩) n (r.take n):=⟨by rw[hnl];exact Nat.le_refl _,by unfold maxLen;omega,by simp,hse.at'⟩
 have hfc:=hs1.fits
 have hn1:(n:Int)<=(cd:Int):=by omega
 have hn0:(0:Int)<=(n:Int):=by omega
 have HRL:Hid (r.length=32):=hrl
 have HNL:Hid ((r.take n).length=n):=hnl
 have HSE:Hid (Sees w1 (some ⟨g,off,none⟩) n (r.take n)):=hse2
 clear hof hs1 ho1 hse hse2 hrl hnl
 go_wp2
 go_ret2
 exact⟨some ⟨g,off,none⟩,n,r.take n,by rw[hr.out];rfl,rfl,HNL.out,HSE.out,hb1,⟨g,off,rfl,hg1,hg2⟩⟩
theorem gather_any (w:World)(a b:Option Addr)(ca cb:Nat)(xs ys:List UInt8)(ha:Sees w a ca xs)(hb:Sees w b cb ys)(hl:xs.length=ys.length):
  Calls Tryz.prog 135 #[.slice a xs.length ca,.slice b ys.length cb] w λe w'=>e=.returned (.int .u8 (gath xs ys).toNat)/\w'=w:=by
 have hm:xs.length<=9223372036854775807:=by have:=ha.fits;have:=ha.room;unfold maxLen at this;omega
 have Hl:Hid (xs.length=ys.length):=hl
 have hle:xs.length<=ys.length:=by omega
 clear hl
 go_enter Tryz.func135,Tryz.ntmps135
 go_wp2
 go_loop [5,10] (λd i=>∃ k:Nat,k<=xs.length/\i=.int .i64 k/\d=.int .u8 (gath (xs.take k) (ys.take k)).toNat) (λ_ i=>xs.length-(intOf i).toNat)
 case atStart=>exact⟨0,Nat.zero_le _,rfl,rfl⟩
 case round=>
  obtain⟨k,hk,rfl,rfl⟩:=hrel
  by_cases hlt:k<xs.length
  ·obtain⟨x,hx⟩:∃ x,xs[k]?=some x:=⟨xs[k],by simp[hlt]⟩
   obtain⟨y,hy⟩:∃ y,ys[k]?=some y:=⟨ys[k]'(by omega),by simp[show k<ys.length by omega]⟩
   obtain⟨b1,o1,rfl,hc1⟩:=ha.get hx
   obtain⟨b2,o2,rfl,hc2⟩:=hb.get hy
   have hlt2:k<ys.length:=by omega
   obtain⟨z,hz⟩:∃ z,z=x^^^y:=⟨_,rfl⟩
   obtain⟨g,hg⟩:∃ g,g=gath (xs.take (k+1)) (ys.take (k+1)):=⟨_,rfl⟩
   have e1:bits .xor .u8 (x.toNat:Int) (y.toNat:Int)=(z.toNat:Int):=by rw[hz];exact bxor x y
   have e2:bits .or .u8 ((gath (xs.take k) (ys.take k)).toNat:Int) (z.toNat:Int)=(g.toNat:Int):=by
    have hll:=Hl.out
    rw[hg,take_snoc xs k x hx,take_snoc ys k y hy,gath_snoc _ _ x y (by simp[hll]),hz]
    exact bor _ _
   have HG:Hid (g=gath (xs.take (k+1)) (ys.take (k+1))):=hg
   clear hx hy hz hg
   go_wp2
   go_round
   case rel=>exact⟨k+1,by omega,by go_num,by rw[HG.out]⟩
   case measure=>simp[intOf];omega
  ·obtain rfl:k=xs.length:=by omega
   have h1:xs.take xs.length=xs:=List.take_length
   have h2:ys.take xs.length=ys:=by rw[Hl.out];exact List.take_length
   rw[h1,h2]
   go_wp2
   go_ret
   exact⟨rfl,rfl⟩
theorem gath_bool (xs ys:List UInt8)(h:xs.length=ys.length):(((gath xs ys).toNat:Int)==0)=decide (xs=ys):=by
 have:=gath_zero xs ys h
 rw[Bool.eq_iff_iff]
 simp only[beq_iff_eq,decide_eq_true_eq]
 rw[<-this]
 constructor
 ·intro hh;exact UInt8.toNat_inj.1 (by simp;omega)
 ·intro hh;rw[hh];rfl
theorem same_any (w:World)(a b:Option Addr)(ca cb:Nat)(xs ys:List UInt8)(ha:Sees w a ca xs)(hb:Sees w b cb ys):
  Calls Tryz.prog 91 #[.slice a xs.length ca,.slice b ys.length cb] w λe w'=>e=.returned (.bool (decide (xs=ys)))/\w'=w:=by
 by_cases hl:xs.length=ys.length
 ·have hg:=gath_bool xs ys hl
  have H:Hid (xs.length=ys.length):=hl
  have h1:((xs.length:Int)==(ys.length:Int))=true:=by simp;omega
  clear hl
  go_enter Tryz.func91,Tryz.ntmps91
  go_wp2_with (go_at_call 135;refine(gather_any w a b ca cb xs ys ha hb H.out).mono ?_;rintro e w' ⟨rfl,rfl⟩)
  go_ret
  exact⟨rfl,rfl⟩
 ·have hne:decide (xs=ys)=false:=by simp;rintro rfl;exact hl rfl
  have h1:((xs.length:Int)==(ys.length:Int))=false:=by simp;omega
  go_enter Tryz.func91,Tryz.ntmps91
  go_wp2
  go_ret
  exact⟨by rw[hne];rfl,rfl⟩
end Go.Proofs.YthogohkieiogiaaGreatDoor
