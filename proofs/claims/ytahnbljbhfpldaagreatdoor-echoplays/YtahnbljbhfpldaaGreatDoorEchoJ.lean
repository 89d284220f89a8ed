/-
  The document's Forget.
-/
import Derived.Test.YtahnbljbhfpldaaGreatDoorEchoG
namespace Go.Proofs.YtahnbljbhfpldaaGreatDoor
set_option maxRecDepth 20000
set_option maxHeartbeats 1600000
open Go.ChangeShapes Go.WideShapes Go.ChangeAt Go.RowKit
theorem wpList_makeW {ops:Array Oper}{rest:List Oper}{o:Oper}{a:Act}{w:World}{Q:Exit->Act->World->Prop}(hg:o.guard=none)(x y:Operand)(m:Nat)(hm:m<=8)(ho:o.op=.makeSlice 58 x y)(hx:a.eval x=.int .i64 (m:Int))(hy:a.eval y=.int .i64 (m:Int))(h:∀ w',DWAt w' w.heap.size (List.replicate m none)->Below w.heap.size w w'->wpList Tryz.prog ops Q rest (a.put o.dst (.slice (some ⟨w.heap.size,0,none⟩) m m)) w'):wpList Tryz.prog ops Q (o::rest) a w:=by
 refine wpList_plain hg λK hK=>?_
 exact op_makeW x y m hm ho hx hy (λw' h1 h2=>hK _ _ (h w' h1 h2))
theorem estore_wds (w:World)(a:Addr)(old:Value)(v:Value)(hv:∃ g n,v=.slice (some ⟨g,0,none⟩) n n)(hc:w.cell? a=some old)(hf:w.frozen? a=false):(Instr.storeAt 58 (.pointer (some a)) v).run Tryz.prog w=.ok () (w.setCell a v):=by
 obtain⟨g,n,rfl⟩:=hv
 go_simp
theorem deforget_ok (w:World)(R g:Nat)(s:Ec)(ma:Option Addr)(mc:Nat)(h:DEAll w R g s ma mc)(hok:s.ok):
  Calls Tryz.prog 22 #[.pointer (some ⟨R,0,none⟩)] w λe w'=>e=.returned (.tuple #[])/\DEAll w' R w.heap.size s.forV ma mc/\Apart (λk=>k=R) w w':=by
 have c0:=h.at'.cell 0 rfl
 obtain⟨N,hN⟩:∃ N:Nat,s.c.n=(N:Int):=⟨s.c.n.toNat,by have:=(right_of hok.cfg).n0;omega⟩
 have hN8:N<=8:=by have:=(right_of hok.cfg).n1;omega
 rw[hN] at c0
 have H0:Hid (DEAll w R g s ma mc/\s.c.n=(N:Int)/\N<=8):=⟨h,hN,hN8⟩
 clear h hok hN hN8
 go_enter Tryz.func22,Tryz.ntmps22
 go_wp2_with (first|(refine wpList_makeW rfl _ _ N H0.out.2.2 rfl rfl rfl ?_)|fail)
 intro wm hwm hbm
 have hA:=H0.out.1.below hbm
 have HST:Hid ((Instr.storeAt 58 (.pointer (some ⟨R,14,none⟩)) (.slice (some ⟨w.heap.size,0,none⟩) N N)).run Tryz.prog wm=.ok () (wm.setCell ⟨R,14,none⟩ (.slice (some ⟨w.heap.size,0,none⟩) N N))):=
  estore_wds wm ⟨R,14,none⟩ _ _ ⟨_,_,rfl⟩ (hA.at'.cell 14 rfl) (hA.at'.fz 14)
 obtain⟨V,hV⟩:∃ V,V=wm.setCell ⟨R,14,none⟩ (.slice (some ⟨w.heap.size,0,none⟩) N N):=⟨_,rfl⟩
 have hR:R<w.heap.size:=H0.out.1.at'.lt
 have HE:Hid (DEAll V R w.heap.size s.forV ma mc/\Apart (λk=>k=R) w V):=by
  have hw:s.forV.ws=List.replicate N none:=by show List.replicate s.c.n.toNat none=_;rw[H0.out.2.1,Int.toNat_natCast]
  have hl:s.forV.ws.length=N:=by rw[hw,List.length_replicate]
  refine⟨⟨?_,?_,?_⟩,?_⟩
  ·rw[hl,hV];exact hA.at'.put 14 _ rfl
  ·rw[hw,hV];show (wm.setCell _ _).heap[w.heap.size]?=_
   rw[heap_setCell_other wm ⟨R,14,none⟩ _ _ (show w.heap.size≠R by omega)];exact hwm
  ·rw[hV];exact Sees.slot hA.ms hA.at' (deL_no _ _ _ _ _ _) 14 _
  ·rw[hV];exact(Apart.of_below (F:=λk=>k=R) hbm).setCell (b:=R) (.inl rfl) 14 _
 rw[<-hV] at HST
 clear hA hV hwm hbm hR c0
 go_wp2_with (first|(refine wpList_store_run rfl 58 _ _ rfl _ _ rfl rfl HST.out ?_)|fail)
 go_end0
 exact⟨rfl,HE.out⟩
end Go.Proofs.YtahnbljbhfpldaaGreatDoor
