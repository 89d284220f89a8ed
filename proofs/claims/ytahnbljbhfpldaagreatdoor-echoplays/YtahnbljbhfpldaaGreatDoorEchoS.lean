/-
  Two answers that say the same.
-/
import Derived.Test.YtahnbljbhfpldaaGreatDoorEchoN
namespace Go.Proofs.YtahnbljbhfpldaaGreatDoor
set_option maxRecDepth 20000
set_option maxHeartbeats 3200000
open Go.ChangeShapes Go.WideShapes Go.ChangeAt Go.RowKit
def AeAt (w:World)(g:Nat)(x:An)(a:Option Addr)(c:Nat):Prop:=w.heap[g]?=some (.cells (anC x a c) 51 (0,0))
theorem AeAt.cell {w:World}{g:Nat}{x:An}{a:Option Addr}{c:Nat}(h:AeAt w g x a c)(i:Nat){u:Value}(hu:(anL x a c)[i]?=some u):w.cell? ⟨g,i,none⟩=some u:=by
 rw[cell_of_row w _ i _ _ _ h];simpa [anC] using hu
theorem AnAt.cell {w:World}{g:Nat}{x:An}{a:Option Addr}{c:Nat}(h:AnAt w g x a c)(i:Nat){u:Value}(hu:(anL x a c)[i]?=some u):w.cell? ⟨g,i,none⟩=some u:=by
 rw[cell_of_row w _ i _ _ _ h];simpa [anC] using hu
theorem iv_mid (w:World)(g:Nat)(lo hi:Int)(h1:w.cell? ⟨g,1,none⟩=some (.int .i64 lo))(h2:w.cell? ⟨g,2,none⟩=some (.int .i64 hi)):(Instr.loadAt 49 (.pointer (some ⟨g,1,none⟩))).run Tryz.prog w=.ok (.agg #[.int .i64 lo,.int .i64 hi]) w:=by
 refine run_loadAt_mid w g 1 49 [.int .i64 lo,.int .i64 hi] _ ?_ Tryz.underIv rfl (by kernel_rfl)
 intro i u hu
 rcases i with _|_|i
 ·simp at hu;subst hu;exact h1
 ·simp at hu;subst hu;exact h2
 ·simp at hu
theorem eqIv (lo hi:Int)(w:World):(binOp .eql 49 (.agg #[.int .i64 lo,.int .i64 hi]) (.agg #[.int .i64 lo,.int .i64 hi])).run Tryz.prog w=.ok (.bool true) w:=by
 have u2:=Tryz.underlying2
 have a2:=Tryz.isAgg2
 have z2:=Tryz.sizeOf2
 have hS:Tryz.prog.underlying 49=some (.struct (Tryz.prog.fieldsOf 49)):=by kernel_rfl
 have hp:Tryz.prog.stoodInHeld 49=false:=by kernel_rfl
 rw[run_eql_struct,show (10000:Nat)=9999+1 from rfl,run_equalIn_agg w 9999 49 _ _ hS hp]
 simp only[Program.fieldsOf,Tryz.underlying49]
 go_simp
theorem answers_same (w:World)(x:An)(a b:Option Addr)(c d:Nat)(ha:Sees w a c x.key)(hb:Sees w b d x.key):
  Calls Tryz.prog 20 #[.agg (anC x a c),.agg (anC x b d)] w λe w'=>e=.returned (.bool true)/\Below w.heap.size w w':=by
 obtain⟨W,hW⟩:∃ W,W=(w.alloc (.cells (anC x a c) 51)).alloc (.cells (anC x b d) 54):=⟨_,rfl⟩
 have hB:Below w.heap.size w W:=by rw[hW];exact Go.Joins.below_alloc2 _ _ _
 have hM:AnAt W (w.heap.size+1) x b d:=by rw[hW];simpa using AnAt.new (w.alloc (.cells (anC x a c) 51)) x b d
 have hN:AeAt W w.heap.size x a c:=by
  rw[hW]
  show ((w.alloc (.cells (anC x a c) 51)).heap.push _)[w.heap.size]?=_
  rw[Array.getElem?_push,if_neg (by simp)]
  exact heap_alloc_new _ _
 have p0:=hN.cell 0 rfl
 have q0:=hM.cell 0 rfl
 have p3:=hN.cell 3 rfl
 have q3:=hM.cell 3 rfl
 have p4:=hN.cell 4 rfl
 have q4:=hM.cell 4 rfl
 have p5:=hN.cell 5 rfl
 have q5:=hM.cell 5 rfl
 have p6:=hN.cell 6 rfl
 have q6:=hM.cell 6 rfl
 have HL1:Hid ((Instr.loadAt 49 (.pointer (some ⟨w.heap.size,1,none⟩))).run Tryz.prog W=.ok (.agg #[.int .i64 x.lo,.int .i64 x.hi]) W):=iv_mid W _ _ _ (hN.cell 1 rfl) (hN.cell 2 rfl)
 have HL2:Hid ((Instr.loadAt 49 (.pointer (some ⟨w.heap.size+1,1,none⟩))).run Tryz.prog W=.ok (.agg #[.int .i64 x.lo,.int .i64 x.hi]) W):=iv_mid W _ _ _ (hM.cell 1 rfl) (hM.cell 2 rfl)
 have e1:=(ha.below hB).convert (P:=Tryz.prog) 24 5 9 (by kernel_rfl) (by kernel_rfl) (by kernel_rfl)
 have e2:=(hb.below hB).convert (P:=Tryz.prog) 24 5 9 (by kernel_rfl) (by kernel_rfl) (by kernel_rfl)
 have hq:=eqIv x.lo x.hi W
 have HE:Hid (Below w.heap.size w W/\W=(w.alloc (.cells (anC x a c) 51)).alloc (.cells (anC x b d) 54)):=⟨hB,hW⟩
 clear ha hb hB hW hN hM
 go_enter Tryz.func20,Tryz.ntmps20
 go_upto_region 1 with fail
 rw[show ((w.alloc (.cells (anC x a c) 51)).alloc (.cells (anC x b d) 54))=W from HE.out.2.symm]
 go_wp2_with (first|(refine wpList_gload_run rfl 49 _ rfl _ _ rfl HL1.out ?_)|(refine wpList_gload_run rfl 49 _ rfl _ _ rfl HL2.out ?_)|fail)
 go_ret
 exact⟨by simp,HE.out.1⟩
end Go.Proofs.YtahnbljbhfpldaaGreatDoor
