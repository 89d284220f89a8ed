/-
  The program's Forget and Asked.
-/
import Derived.Test.YtahnbljbhfpldaaGreatDoorPeK
namespace Go.Proofs.YtahnbljbhfpldaaGreatDoor
set_option maxRecDepth 20000
set_option maxHeartbeats 1600000
open Go.ChangeShapes Go.WideShapes Go.ChangeAt Go.RowKit
theorem p8build (U:World):(Instr.build 80 #[]).run Tryz.prog U=.ok (.agg (pwF (List.replicate 8 none)).toArray) U:=run_build U 80 _ _ (by kernel_rfl)
theorem peforget_ok (w:World)(R:Nat)(s:Ec)(ma:Option Addr)(mc:Nat)(h:PEAll w R s ma mc)(hok:s.ok):
  Calls Tryz.prog 21 #[.pointer (some ⟨R,0,none⟩)] w λe w'=>e=.returned (.tuple #[])/\PEAll w' R s.forV ma mc/\Apart (λk=>k=R) w w':=by
 have KM:=pemade_ok w R s ma mc h.at' hok.ms
 obtain⟨V,hst,pV,aV⟩:=h.at'.clears hok.num (right_of hok.cfg).n1
 have HST:Hid ((Instr.storeAt 80 (.pointer (some ⟨R,14,none⟩)) (.agg (pwF (List.replicate 8 none)).toArray)).run Tryz.prog w=.ok () V):=hst
 have HB:Hid ((Instr.build 80 #[]).run Tryz.prog w=.ok (.agg (pwF (List.replicate 8 none)).toArray) w):=p8build w
 have HE:Hid (PEAll V R s.forV ma mc/\Apart (λk=>k=R) w V):=⟨⟨pV,h.at'.aside aV h.ms⟩,aV⟩
 clear h hok hst pV aV
 go_enter Tryz.func21,Tryz.ntmps21
 go_wp2_with fail
 refine KM.mono ?_
 rintro e w1 ⟨rfl,hw1⟩
 rw[hw1]
 clear hw1 w1 KM
 go_wp2_with (first|(refine wpList_build_run rfl 80 _ rfl [] _ rfl HB.out ?_)|(refine wpList_store_run rfl 80 _ _ rfl _ _ rfl rfl HST.out ?_)|fail)
 go_end0
 exact⟨rfl,HE.out⟩
theorem wpList_gbuild_run {P:Program}{ops:Array Oper}{rest:List Oper}{o:Oper}{a:Act}{w:World}{Q:Exit->Act->World->Prop}(hw:Region.wanted o (yielded ops a.tmps)=true)(t:TypeId)(parts:Array (Nat×Operand))(ho:o.op=.build t parts)(vs:List (Nat×Value))(r:Value)(hp:parts.toList.map (λp=>(p.1,a.eval p.2))=vs)(hrun:(Instr.build t vs.toArray).run P w=.ok r w)(h:wpList P ops Q rest (a.put o.dst r) w):wpList P ops Q (o::rest) a w:=by
 have hq:parts.map (λp=>(p.1,a.eval p.2))=vs.toArray:=by rw[<-hp,<-Array.toList_map,Array.toArray_toList]
 simp only[wpList,hw,if_true]
 left
 unfold Oper.wp execOp
 simp only[ho,hq,Sem.run_bind,hrun,Result.andThen_ok,Sem.run_pure]
 exact h
def Ec.asB (s:Ec)(jj:Int):Bool:=s.othB jj&&((s.ws[jj.toNat]?).join).isSome
theorem peasked_ok (w:World)(R:Nat)(s:Ec)(ma:Option Addr)(mc:Nat)(h:PEAt w R s ma mc)(hok:s.ok)(jj:Int):
  Calls Tryz.prog 23 #[.pointer (some ⟨R,0,none⟩),.int .i64 jj] w λe w'=>e=.returned (.bool (s.asB jj))/\w'=w:=by
 have KM:=pemade_ok w R s ma mc h hok.ms
 have KO:=peother_ok w R s ma mc h jj
 by_cases ho:s.othB jj=true
 ·obtain⟨o1,o2,o3⟩:=Ec.othB_iff.1 ho
  have hn8:=(right_of hok.cfg).n1
  obtain⟨p,hp⟩:∃ p,s.ws[jj.toNat]?=some p:=by
   have hl:jj.toNat<s.ws.length:=by rw[hok.num];omega
   exact⟨s.ws[jj.toNat],by simp[hl]⟩
  have HB:Hid (s.asB jj=p.isSome):=by
   unfold Ec.asB
   rw[ho,hp]
   rfl
  rw[HB.out]
  have j8:jj<8:=by omega
  rw[ho] at KO
  rcases p with _|⟨n,t⟩
  ·show Calls Tryz.prog 23 _ w λe w'=>e=.returned (.bool false)/\w'=w
   have HL:Hid ((Instr.loadAt 79 (.pointer (some ⟨R,14+jj.toNat*2,none⟩))).run Tryz.prog w=.ok (.agg #[.int .u64 0,.int .i64 0]) w):=h.loads hp
   have HB0:Hid ((Instr.build 79 #[]).run Tryz.prog w=.ok (.agg #[.int .u64 0,.int .i64 0]) w):=pqbuild0 w
   clear h hok ho o2 o3 hn8 hp
   go_enter Tryz.func23,Tryz.ntmps23
   go_wp2_with fail
   refine KM.mono ?_
   rintro e w1 ⟨rfl,hw1⟩
   rw[hw1]
   clear hw1 w1 KM
   go_wp2_with fail
   refine KO.mono ?_
   rintro e w1 ⟨rfl,hw1⟩
   rw[hw1]
   clear hw1 w1 KO
   go_wp2_with (first|(refine wpList_gload_run rfl 79 _ rfl _ _ rfl HL.out ?_)|(refine wpList_gbuild_run rfl 79 _ rfl [] _ rfl HB0.out ?_)|fail)
   go_ret
   exact⟨by simp,rfl⟩
  ·show Calls Tryz.prog 23 _ w λe w'=>e=.returned (.bool true)/\w'=w
   have h0:=(hok.wait _ (List.mem_of_getElem? hp) n t rfl).1.1
   have HL:Hid ((Instr.loadAt 79 (.pointer (some ⟨R,14+jj.toNat*2,none⟩))).run Tryz.prog w=.ok (.agg #[.int .u64 (n:Int),.int .i64 t]) w):=h.loads hp
   have HB0:Hid ((Instr.build 79 #[]).run Tryz.prog w=.ok (.agg #[.int .u64 0,.int .i64 0]) w):=pqbuild0 w
   have hb:((n:Int)==0)=false:=by simp;omega
   clear h0
   clear h hok ho o2 o3 hn8 hp
   go_enter Tryz.func23,Tryz.ntmps23
   go_wp2_with fail
   refine KM.mono ?_
   rintro e w1 ⟨rfl,hw1⟩
   rw[hw1]
   clear hw1 w1 KM
   go_wp2_with fail
   refine KO.mono ?_
   rintro e w1 ⟨rfl,hw1⟩
   rw[hw1]
   clear hw1 w1 KO
   go_wp2_with (first|(refine wpList_gload_run rfl 79 _ rfl _ _ rfl HL.out ?_)|(refine wpList_gbuild_run rfl 79 _ rfl [] _ rfl HB0.out ?_)|fail)
   go_ret
   exact⟨by simp,rfl⟩
 ·have ho2:=Bool.eq_false_iff.2 ho
  have HB:Hid (s.asB jj=false):=by unfold Ec.asB;rw[ho2];rfl
  rw[HB.out]
  rw[ho2] at KO
  clear h hok ho ho2
  go_enter Tryz.func23,Tryz.ntmps23
  go_wp2_with fail
  refine KM.mono ?_
  rintro e w1 ⟨rfl,hw1⟩
  rw[hw1]
  clear hw1 w1 KM
  go_wp2_with fail
  refine KO.mono ?_
  rintro e w1 ⟨rfl,hw1⟩
  rw[hw1]
  clear hw1 w1 KO
  go_wp2
  go_ret
  exact⟨by simp,rfl⟩
end Go.Proofs.YtahnbljbhfpldaaGreatDoor
