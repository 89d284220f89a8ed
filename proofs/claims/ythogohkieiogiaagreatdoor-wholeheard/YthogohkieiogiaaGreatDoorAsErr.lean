/-
  The contract of errors.As at a refusal that wraps a number, and a target that is a number's variable.
-/
import Derived.Test.YthogohkieiogiaaGreatDoorRows
import Derived.Test.YthogohkieiogiaaGreatDoorGround
import Derived.LaidEql
import Derived.Lib.SmallJoins
import Derived.Stop.Asserts
namespace Go.Proofs.YthogohkieiogiaaGreatDoor
set_option maxRecDepth 20000
set_option maxHeartbeats 4000000
open Go.RowKit Go.Extern.Stop Go.Stop Go.Extern Go.ChangeShapes Go.WideShapes Go.ChangeAt
theorem as_valueP (t:Addr)(w:World):(ReflectliteValue.unpack (.iface 128 (.pointer (some t)))).run Tryz.prog w=.ok (.agg #[.pointer (some ⟨3,128,none⟩),.pointer (some ⟨w.heap.size,0,none⟩),.int .u64 150]) (w.alloc (.cells #[.pointer (some t)] 128)):=by kernel_rfl
theorem as_valueN (n:Int)(w:World):(ReflectliteValue.unpack (.iface 27 (.int .i64 n))).run Tryz.prog w=.ok (.agg #[.pointer (some ⟨3,27,none⟩),.pointer (some ⟨w.heap.size,0,none⟩),.int .u64 130]) (w.alloc (.cells #[.int .i64 n] 27)):=by kernel_rfl
theorem as_typeP (a:Addr)(w:World):(ReflectliteValue.methodAny (ReflectliteValue.valueError "reflectlite.Value.Type" 0) (λt _ _ _=>ReflectliteType.toType t) #[.agg #[.pointer (some ⟨3,128,none⟩),.pointer (some a),.int .u64 150]]).run Tryz.prog w=.ok (.iface 214 (.agg #[.pointer (some ⟨3,128,none⟩)])) w:=by kernel_rfl
theorem as_mKind (h:Value)(w:World):(Go.method 423 214 (.agg #[h]) "Kind").run Tryz.prog w=.ok (221,h) w:=by kernel_rfl
theorem as_kindP (w:World):((ReflectliteType.abiMethod λt=>Functor.map (λa:Nat=>Value.int IntKind.u8 (a:Int)) (Rtype.kind t)) #[.pointer (some ⟨3,128,none⟩)]).run Tryz.prog w=.ok (.int .u8 22) w:=by kernel_rfl
theorem as_kindN (w:World):((ReflectliteType.abiMethod λt=>Functor.map (λa:Nat=>Value.int IntKind.u8 (a:Int)) (Rtype.kind t)) #[.pointer (some ⟨3,27,none⟩)]).run Tryz.prog w=.ok (.int .u8 2) w:=by kernel_rfl
theorem as_partsP (a:Addr)(w:World):(ReflectliteValue.parts (.agg #[.pointer (some ⟨3,128,none⟩),.pointer (some a),.int .u64 150])).run Tryz.prog w=.ok (some (128,a,150)) w:=by kernel_rfl
theorem as_isNil (a p:Addr)(W:World)(ha:W.cell? a=some (.pointer (some p))):(ReflectliteValue.method (ReflectliteValue.valueError "reflectlite.Value.IsNil" 0) ReflectliteValue.isNil #[.agg #[.pointer (some ⟨3,128,none⟩),.pointer (some a),.int .u64 150]]).run Tryz.prog W=.ok (.bool false) W:=by
 change Sem.run _ (ReflectliteValue.parts (.agg #[.pointer (some ⟨3,128,none⟩),.pointer (some a),.int .u64 150]) >>= _) _=_
 simp only[Sem.run_bind,as_partsP,Result.andThen]
 simp[ReflectliteValue.isNil,loadVar,isAgg,underlying,Tryz.underlying128,ha,Result.andThen]
theorem as_mElem (h:Value)(w:World):(Go.method 423 214 (.agg #[h]) "Elem").run Tryz.prog w=.ok (239,.agg #[h]) w:=by kernel_rfl
theorem as_mImpl (h:Value)(w:World):(Go.method 423 214 (.agg #[h]) "Implements").run Tryz.prog w=.ok (240,.agg #[h]) w:=by kernel_rfl
theorem as_mAss (h:Value)(w:World):(Go.method 423 214 (.agg #[h]) "AssignableTo").run Tryz.prog w=.ok (237,.agg #[h]) w:=by kernel_rfl
theorem as_elemP (w:World):(ReflectliteType.method ReflectliteType.elem #[.agg #[.pointer (some ⟨3,128,none⟩)]]).run Tryz.prog w=.ok (.iface 214 (.agg #[.pointer (some ⟨3,27,none⟩)])) w:=by kernel_rfl
theorem as_impl (w:World):(ReflectliteType.relation "Implements" ReflectliteType.implements_ #[.agg #[.pointer (some ⟨3,27,none⟩)],.iface 214 (.agg #[.pointer (some ⟨3,88,none⟩)])]).run Tryz.prog w=.ok (.bool true) w:=by kernel_rfl
theorem as_typeOfR (v:Value)(w:World):(ReflectliteType.typeOf #[.iface 175 v]).run Tryz.prog w=.ok (.iface 214 (.agg #[.pointer (some ⟨3,175,none⟩)])) w:=by kernel_rfl
theorem as_typeOfN (v:Value)(w:World):(ReflectliteType.typeOf #[.iface 27 v]).run Tryz.prog w=.ok (.iface 214 (.agg #[.pointer (some ⟨3,27,none⟩)])) w:=by kernel_rfl
theorem as_assR (w:World):(ReflectliteType.relation "AssignableTo" ReflectliteType.assignableTo #[.agg #[.pointer (some ⟨3,175,none⟩)],.iface 214 (.agg #[.pointer (some ⟨3,27,none⟩)])]).run Tryz.prog w=.ok (.bool false) w:=by kernel_rfl
theorem as_assN (w:World):(ReflectliteType.relation "AssignableTo" ReflectliteType.assignableTo #[.agg #[.pointer (some ⟨3,27,none⟩)],.iface 214 (.agg #[.pointer (some ⟨3,27,none⟩)])]).run Tryz.prog w=.ok (.bool true) w:=by kernel_rfl
theorem as_elemOf (w:World):(Rtype.elem? 128).run Tryz.prog w=.ok (some 27) w:=by kernel_rfl
theorem as_mk (p:Addr)(w:World):(ReflectliteValue.mk 27 p ReflectliteValue.flagAddr).run Tryz.prog w=.ok (.agg #[.pointer (some ⟨3,27,none⟩),.pointer (some p),.int .u64 386]) w:=by kernel_rfl
theorem as_elemV (a p:Addr)(W:World)(ha:W.cell? a=some (.pointer (some p))):(ReflectliteValue.method (ReflectliteValue.valueError "reflectlite.Value.Elem" 0) ReflectliteValue.elem #[.agg #[.pointer (some ⟨3,128,none⟩),.pointer (some a),.int .u64 150]]).run Tryz.prog W=.ok (.agg #[.pointer (some ⟨3,27,none⟩),.pointer (some p),.int .u64 386]) W:=by
 change Sem.run _ (ReflectliteValue.parts (.agg #[.pointer (some ⟨3,128,none⟩),.pointer (some a),.int .u64 150]) >>= _) _=_
 simp only[Sem.run_bind,as_partsP,Result.andThen]
 simp[ReflectliteValue.elem,loadVar,isAgg,underlying,Tryz.underlying128,ha,Result.andThen,as_elemOf,as_mk]
theorem as_partsA (a:Addr)(w:World):(ReflectliteValue.parts (.agg #[.pointer (some ⟨3,27,none⟩),.pointer (some a),.int .u64 386])).run Tryz.prog w=.ok (some (27,a,386)) w:=by kernel_rfl
theorem as_partsN (a:Addr)(w:World):(ReflectliteValue.parts (.agg #[.pointer (some ⟨3,27,none⟩),.pointer (some a),.int .u64 130])).run Tryz.prog w=.ok (some (27,a,130)) w:=by kernel_rfl
theorem as_direct (w:World):(Rtype.directlyAssignable 27 27).run Tryz.prog w=.ok true w:=by kernel_rfl
theorem as_set (ta b:Addr)(n:Int)(old:Value)(W:World)(hb:W.cell? b=some (.int .i64 n))(ht:W.cell? ta=some old)(hf:W.frozen? ta=false):
  (ReflectliteValue.set #[.agg #[.pointer (some ⟨3,27,none⟩),.pointer (some ta),.int .u64 386],.agg #[.pointer (some ⟨3,27,none⟩),.pointer (some b),.int .u64 130]]).run Tryz.prog W=.ok (.tuple #[]) (W.setCell ta (.int .i64 n)):=by
 change Sem.run _ (ReflectliteValue.parts (.agg #[.pointer (some ⟨3,27,none⟩),.pointer (some ta),.int .u64 386]) >>= λ_=>ReflectliteValue.parts (.agg #[.pointer (some ⟨3,27,none⟩),.pointer (some b),.int .u64 130]) >>= _) _=_
 simp only[Sem.run_bind,as_partsA,as_partsN,Result.andThen]
 simp[ReflectliteValue.flagAddr,loadVar,isAgg,underlying,Tryz.underlying27,hb,Result.andThen,as_direct,storeVar,Value.cells,storeCells,Addr.add]
 rw[run_store Tryz.prog W ta _ _ (by rfl)]
 simp[ht,hf]
theorem as_noAs (v:Value)(xT:TypeId)(w:World):(Instr.typeAssert (.iface 175 v) xT 218 true).run Tryz.prog w=.ok (.tuple #[.nilIface,.bool false]) w:=run_typeAssert_lacksB Tryz.underlying218 (by kernel_rfl) (by kernel_rfl) v xT w
theorem as_unwraps (v:Value)(xT:TypeId)(w:World):(Instr.typeAssert (.iface 175 v) xT 221 true).run Tryz.prog w=.ok (.tuple #[.iface 175 v,.bool true]) w:=run_typeAssert_hasB Tryz.underlying221 (by kernel_rfl) v xT w
theorem as_method (v:Value)(w:World):(Go.method 423 175 v "Unwrap").run Tryz.prog w=.ok (233,v) w:=by kernel_rfl
theorem as_nil (t:Value)(w:World):Calls Tryz.prog 61 #[.nilIface,t] w λe w'=>e=.returned (.bool false)/\w'=w:=by
 go_enter Tryz.func61,Tryz.ntmps61
 go_wp2
 go_ret
 exact⟨rfl,rfl⟩
theorem as_ref (s:ByteArray)(n:Int)(t:Addr)(old:Value)(w:World)(hg:w.cell? ⟨0,0,none⟩=some (.iface 214 (.agg #[.pointer (some ⟨3,88,none⟩)])))(ht0:w.cell? t=some old)(hf0:w.frozen? t=false):
  Calls Tryz.prog 61 #[.iface 175 (.agg #[.string s,.int .i64 n]),.iface 128 (.pointer (some t))] w λev w'=>ev=.returned (.bool true)/\∃ w1,Below w.heap.size w w1/\w'=w1.setCell t (.int .i64 n):=by
 have h6:=@run_callFunc_extern Tryz.prog 96 _ (λargs=>ReflectliteValue.unpack (args.getD 0 (.tuple #[]))) Tryz.func96 (by kernel_rfl) (by kernel_rfl) (by kernel_rfl) (by kernel_rfl)
 have h7:=@run_callFunc_extern Tryz.prog 97 _ (ReflectliteValue.methodAny (ReflectliteValue.valueError "reflectlite.Value.Type" 0) (λt _ _ _=>ReflectliteType.toType t)) Tryz.func97 (by kernel_rfl) (by kernel_rfl) (by kernel_rfl) (by kernel_rfl)
 have h8:=@run_callFunc_extern Tryz.prog 98 _ (ReflectliteValue.method (ReflectliteValue.valueError "reflectlite.Value.IsNil" 0) ReflectliteValue.isNil) Tryz.func98 (by kernel_rfl) (by kernel_rfl) (by kernel_rfl) (by kernel_rfl)
 have h27:=@run_callFunc_extern Tryz.prog 221 _ (ReflectliteType.abiMethod λt=>do pure (.int .u8 (<-Rtype.kind t))) Tryz.func221 (by kernel_rfl) (by kernel_rfl) (by kernel_rfl) (by kernel_rfl)
 have h37:=@run_callFunc_extern Tryz.prog 239 _ (ReflectliteType.method ReflectliteType.elem) Tryz.func239 (by kernel_rfl) (by kernel_rfl) (by kernel_rfl) (by kernel_rfl)
 have h38:=@run_callFunc_extern Tryz.prog 240 _ (ReflectliteType.relation "Implements" ReflectliteType.implements_) Tryz.func240 (by kernel_rfl) (by kernel_rfl) (by kernel_rfl) (by kernel_rfl)
 have h10:=@run_callFunc_extern Tryz.prog 107 _ ReflectliteType.typeOf Tryz.func107 (by kernel_rfl) (by kernel_rfl) (by kernel_rfl) (by kernel_rfl)
 have h35:=@run_callFunc_extern Tryz.prog 237 _ (ReflectliteType.relation "AssignableTo" ReflectliteType.assignableTo) Tryz.func237 (by kernel_rfl) (by kernel_rfl) (by kernel_rfl) (by kernel_rfl)
 have h11:=@run_callFunc_extern Tryz.prog 142 _ (ReflectliteValue.method (ReflectliteValue.valueError "reflectlite.Value.Elem" 0) ReflectliteValue.elem) Tryz.func142 (by kernel_rfl) (by kernel_rfl) (by kernel_rfl) (by kernel_rfl)
 have h12:=@run_callFunc_extern Tryz.prog 143 _ ReflectliteValue.set Tryz.func143 (by kernel_rfl) (by kernel_rfl) (by kernel_rfl) (by kernel_rfl)
 have tR:=as_typeOfR
 have tN:=as_typeOfN
 have mA:=as_mAss
 have aR:=as_assR
 have aN:=as_assN
 have vN:=as_valueN
 have f6:=as_valueP
 have f7:=as_typeP
 have mK:=as_mKind
 have mE:=as_mElem
 have mI:=as_mImpl
 have kP:=as_kindP
 have kN:=as_kindN
 have eP:=as_elemP
 have iN:=as_impl
 have nA:=as_noAs
 have uW:=as_unwraps
 have mU:=as_method
 have hlt:0<w.heap.size:=World.block_lt_of_cell? w _ hg
 have htl:t.block<w.heap.size:=World.block_lt_of_cell? w _ ht0
 have n8:=as_isNil ⟨w.heap.size,0,none⟩ t ((w.alloc (.cells #[.pointer (some t)] 128)).alloc (.cells #[.pointer (some ⟨3,128,none⟩),.pointer (some ⟨w.heap.size,0,none⟩),.int .u64 150] 165)) (by simp)
 have hg2:((w.alloc (.cells #[.pointer (some t)] 128)).alloc (.cells #[.pointer (some ⟨3,128,none⟩),.pointer (some ⟨w.heap.size,0,none⟩),.int .u64 150] 165)).cell? ⟨0,0,none⟩=some (.iface 214 (.agg #[.pointer (some ⟨3,88,none⟩)])):=by
  rw[World.cell?_alloc_lt _ _ ⟨0,0,none⟩ (by simp<;>omega),World.cell?_alloc_lt _ _ ⟨0,0,none⟩ hlt];exact hg
 have el:=as_elemV ⟨w.heap.size,0,none⟩ t ((((w.alloc (.cells #[.pointer (some t)] 128)).alloc (.cells #[.pointer (some ⟨3,128,none⟩),.pointer (some ⟨w.heap.size,0,none⟩),.int .u64 150] 165)).alloc (.cells #[.pointer (some ⟨3,128,none⟩),.pointer (some ⟨w.heap.size,0,none⟩),.int .u64 150] 165)).alloc (.cells #[.string s,.int .i64 n] 175))
  (by rw[World.cell?_alloc_lt _ _ ⟨w.heap.size,0,none⟩ (by simp;omega),World.cell?_alloc_lt _ _ ⟨w.heap.size,0,none⟩ (by simp;omega)];simp)
 have st:=as_set t ⟨w.heap.size+1+1+1+1,0,none⟩ n old (((((w.alloc (.cells #[.pointer (some t)] 128)).alloc (.cells #[.pointer (some ⟨3,128,none⟩),.pointer (some ⟨w.heap.size,0,none⟩),.int .u64 150] 165)).alloc (.cells #[.pointer (some ⟨3,128,none⟩),.pointer (some ⟨w.heap.size,0,none⟩),.int .u64 150] 165)).alloc (.cells #[.string s,.int .i64 n] 175)).alloc (.cells #[.int .i64 n] 27))
  (by rw[World.cell?_alloc_at _ _ _ _ (by simp)];rfl)
  (by rw[World.cell?_alloc_lt _ _ t (by simp;omega),World.cell?_alloc_lt _ _ t (by simp;omega),World.cell?_alloc_lt _ _ t (by simp;omega),World.cell?_alloc_lt _ _ t (by simp;omega),World.cell?_alloc_lt _ _ t htl];exact ht0)
  (by rw[World.frozen?_alloc_old _ _ t (by simp;omega),World.frozen?_alloc_old _ _ t (by simp;omega),World.frozen?_alloc_old _ _ t (by simp;omega),World.frozen?_alloc_old _ _ t (by simp;omega),World.frozen?_alloc_old _ _ t (Nat.ne_of_lt htl)];exact hf0)
 go_enter Tryz.func61,Tryz.ntmps61
 go_wp2
 refine wp_loop_rounds 2 ?_
 rw[rounds_succ]
 go_wp2
 rw[rounds_succ]
 go_wp2
 go_ret
 exact⟨rfl,_,(((Go.Joins.below_alloc2 _ _ _).alloc (by simp;omega) _).alloc (by simp;omega) _).alloc (by simp;omega) _,rfl⟩
def ETab (w:World):Prop:=w.cell? ⟨0,0,none⟩=some (.iface 214 (.agg #[.pointer (some ⟨3,88,none⟩)]))
theorem ETab.below {w w':World}(h:ETab w)(hb:Below w.heap.size w w'):ETab w':=by
 unfold ETab
 rw[hb.cell (p:=⟨0,0,none⟩) (World.block_lt_of_cell? w _ h)];exact h
theorem et_named:Tryz.prog.globalNamed "errors.errorType" = some 0:=by kernel_rfl
theorem et_rt:(Tryz.prog.cutTypes.find? (·.1 == "internal/reflectlite.rtype")).map (·.2)=some 214:=by kernel_rfl
theorem et_row:((List.range 323).filter λt=>Tryz.prog.rowNamed t [101,114,114,111,114])=[88]:=by kernel_rfl
theorem et_size:Tryz.prog.types.size=323:=by kernel_rfl
theorem etab_of_laid {W:World}(h:laidMetH Tryz.prog [("errors.errorType",Rows.laid_errors_errorType),("carillon/sha.first",Rows.laid_carillon_sha_first),("carillon/sha.roundWords",Rows.laid_carillon_sha_roundWords)] W):ETab W:=by
 have h':laidMet Tryz.prog [("carillon/sha.first",Rows.laid_carillon_sha_first),("carillon/sha.roundWords",Rows.laid_carillon_sha_roundWords)] W/\handlesMet Tryz.prog [("errors.errorType",Rows.laid_errors_errorType)] W:=h
 obtain⟨name,u,ty,e1,e2,e3,e4,e5⟩:=h'.2 _ (List.mem_singleton.2 rfl)
 have en:name=[101,114,114,111,114]:=(Option.some.inj e1).symm
 subst en
 obtain rfl:=Option.some.inj (et_rt.symm.trans e2)
 have hm:ty∈(List.range 323).filter λt=>Tryz.prog.rowNamed t [101,114,114,111,114]:=List.mem_filter.2 ⟨List.mem_range.2 (by rw[<-et_size];exact e3),e4⟩
 rw[et_row] at hm
 obtain rfl:=List.mem_singleton.1 hm
 have hh:typeHandle Tryz.prog 88=.pointer (some ⟨3,88,none⟩):=by kernel_rfl
 rw[hh] at e5
 simpa [ETab] using World.var?_cell et_named e5 0
theorem tnumber_none (w:World):Calls Tryz.prog 34 #[.nilIface] w λe w'=>e=.returned (.int .i64 0)/\Below w.heap.size w w':=by
 go_enter Tryz.func34,Tryz.ntmps34
 go_wp2_with (go_at_call 61;refine(as_nil _ _).mono ?_;rintro e w' ⟨rfl,rfl⟩)
 go_ret
 exact⟨rfl,Go.Joins.below_alloc1 _ _⟩
def trefV (s:ByteArray)(n:Int):Value:=.iface 175 (.agg #[.string s,.int .i64 n])
theorem tnumber_some (s:ByteArray)(n:Int)(w:World)(hE:ETab w):Calls Tryz.prog 34 #[trefV s n] w λe w'=>e=.returned (.int .i64 n)/\Below w.heap.size w w':=by
 unfold trefV
 have hg:(w.alloc (.cells #[.int .i64 0] 27)).cell? ⟨0,0,none⟩=_:=hE.below (Go.Joins.below_alloc1 _ _)
 have HK:=as_ref s n ⟨w.heap.size,0,none⟩ (.int .i64 0) (w.alloc (.cells #[.int .i64 0] 27)) hg (by simp) (by simp)
 clear hg hE
 go_enter Tryz.func34,Tryz.ntmps34
 go_wp2_with fail
 refine HK.mono ?_
 rintro e w' ⟨rfl,w1,hb,rfl⟩
 have hc:w1.cell? ⟨w.heap.size,0,none⟩=some (.int .i64 0):=by rw[hb.cell (p:=⟨w.heap.size,0,none⟩) (by simp)];simp
 have hc2:(w1.setCell ⟨w.heap.size,0,none⟩ (.int .i64 n)).cell? ⟨w.heap.size,0,none⟩=some (.int .i64 n):=by first|exact World.cell?_setCell_same _ _ _ _ hc|exact World.cell?_setCell_same _ _ _ hc|simp[hc]
 have hB:Below w.heap.size w (w1.setCell ⟨w.heap.size,0,none⟩ (.int .i64 n)):=((Go.Joins.below_alloc1 w (.cells #[.int .i64 0] 27)).trans (hb.mono (by simp))).setCell (by simp) _
 go_wp2
 go_ret
 exact⟨rfl,hB⟩
end Go.Proofs.YthogohkieiogiaaGreatDoor
