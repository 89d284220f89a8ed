/- A helper. -/
import Derived.Test.YtmffplhaclnehaaGreatDoorGround
import Derived.Lib.SmallJoins
import Derived.Stop.Asserts
namespace Go.Proofs.YtmffplhaclnehaaGreatDoor
set_option maxRecDepth 20000
set_option maxHeartbeats 4000000
open Go.RowKit Go.Extern.Stop Go.Stop Go.Extern Go.ChangeShapes Go.WideShapes Go.ChangeAt
theorem Im (t:Addr)(w:World):(ReflectliteValue.unpack (.iface 133 (.pointer (some t)))).run Tryz.prog w=.ok (.agg #[.pointer (some ⟨3,133,none⟩),.pointer (some ⟨w.heap.size,0,none⟩),.int .u64 150]) (w.alloc (.cells #[.pointer (some t)] 133)):=by kernel_rfl
theorem Io (n:Int)(w:World):(ReflectliteValue.unpack (.iface 29 (.int .i64 n))).run Tryz.prog w=.ok (.agg #[.pointer (some ⟨3,29,none⟩),.pointer (some ⟨w.heap.size,0,none⟩),.int .u64 130]) (w.alloc (.cells #[.int .i64 n] 29)):=by kernel_rfl
theorem Li (a:Addr)(w:World):(ReflectliteValue.methodAny (ReflectliteValue.valueError "reflectlite.Value.Type" 0) (λt _ _ _=>ReflectliteType.toType t) #[.agg #[.pointer (some ⟨3,133,none⟩),.pointer (some a),.int .u64 150]]).run Tryz.prog w=.ok (.iface 236 (.agg #[.pointer (some ⟨3,133,none⟩)])) w:=by kernel_rfl
theorem Lj (h:Value)(w:World):(Go.method 459 236 (.agg #[h]) "Kind").run Tryz.prog w=.ok (260,h) w:=by kernel_rfl
theorem Ll (w:World):((ReflectliteType.abiMethod λt=>Functor.map (λa:Nat=>Value.int IntKind.u8 (a:Int)) (Rtype.kind t)) #[.pointer (some ⟨3,133,none⟩)]).run Tryz.prog w=.ok (.int .u8 22) w:=by kernel_rfl
theorem Lm (w:World):((ReflectliteType.abiMethod λt=>Functor.map (λa:Nat=>Value.int IntKind.u8 (a:Int)) (Rtype.kind t)) #[.pointer (some ⟨3,29,none⟩)]).run Tryz.prog w=.ok (.int .u8 2) w:=by kernel_rfl
theorem yB (a:Addr)(w:World):(ReflectliteValue.parts (.agg #[.pointer (some ⟨3,133,none⟩),.pointer (some a),.int .u64 150])).run Tryz.prog w=.ok (some (133,a,150)) w:=by kernel_rfl
theorem Lp (a p:Addr)(W:World)(ha:W.cell? a=some (.pointer (some p))):(ReflectliteValue.method (ReflectliteValue.valueError "reflectlite.Value.IsNil" 0) ReflectliteValue.isNil #[.agg #[.pointer (some ⟨3,133,none⟩),.pointer (some a),.int .u64 150]]).run Tryz.prog W=.ok (.bool false) W:=by
 change Sem.run _ (ReflectliteValue.parts (.agg #[.pointer (some ⟨3,133,none⟩),.pointer (some a),.int .u64 150]) >>= _) _=_
 simp only[Sem.run_bind,yB,Result.andThen]
 simp[ReflectliteValue.isNil,loadVar,isAgg,underlying,Tryz.underlying133,ha,Result.andThen]
theorem Lr (h:Value)(w:World):(Go.method 459 236 (.agg #[h]) "Elem").run Tryz.prog w=.ok (275,.agg #[h]) w:=by kernel_rfl
theorem Ls (h:Value)(w:World):(Go.method 459 236 (.agg #[h]) "Implements").run Tryz.prog w=.ok (276,.agg #[h]) w:=by kernel_rfl
theorem PL (h:Value)(w:World):(Go.method 459 236 (.agg #[h]) "AssignableTo").run Tryz.prog w=.ok (273,.agg #[h]) w:=by kernel_rfl
theorem Lt (w:World):(ReflectliteType.method ReflectliteType.elem #[.agg #[.pointer (some ⟨3,133,none⟩)]]).run Tryz.prog w=.ok (.iface 236 (.agg #[.pointer (some ⟨3,29,none⟩)])) w:=by kernel_rfl
theorem PN (w:World):(ReflectliteType.relation "Implements" ReflectliteType.implements_ #[.agg #[.pointer (some ⟨3,29,none⟩)],.iface 236 (.agg #[.pointer (some ⟨3,86,none⟩)])]).run Tryz.prog w=.ok (.bool true) w:=by kernel_rfl
theorem DF (v:Value)(w:World):(ReflectliteType.typeOf #[.iface 191 v]).run Tryz.prog w=.ok (.iface 236 (.agg #[.pointer (some ⟨3,191,none⟩)])) w:=by kernel_rfl
theorem DI (v:Value)(w:World):(ReflectliteType.typeOf #[.iface 29 v]).run Tryz.prog w=.ok (.iface 236 (.agg #[.pointer (some ⟨3,29,none⟩)])) w:=by kernel_rfl
theorem PO (w:World):(ReflectliteType.relation "AssignableTo" ReflectliteType.assignableTo #[.agg #[.pointer (some ⟨3,191,none⟩)],.iface 236 (.agg #[.pointer (some ⟨3,29,none⟩)])]).run Tryz.prog w=.ok (.bool false) w:=by kernel_rfl
theorem PR (w:World):(ReflectliteType.relation "AssignableTo" ReflectliteType.assignableTo #[.agg #[.pointer (some ⟨3,29,none⟩)],.iface 236 (.agg #[.pointer (some ⟨3,29,none⟩)])]).run Tryz.prog w=.ok (.bool true) w:=by kernel_rfl
theorem Ip (w:World):(Rtype.elem? 133).run Tryz.prog w=.ok (some 29) w:=by kernel_rfl
theorem VI (p:Addr)(w:World):(ReflectliteValue.mk 29 p ReflectliteValue.flagAddr).run Tryz.prog w=.ok (.agg #[.pointer (some ⟨3,29,none⟩),.pointer (some p),.int .u64 386]) w:=by kernel_rfl
theorem Lu (a p:Addr)(W:World)(ha:W.cell? a=some (.pointer (some p))):(ReflectliteValue.method (ReflectliteValue.valueError "reflectlite.Value.Elem" 0) ReflectliteValue.elem #[.agg #[.pointer (some ⟨3,133,none⟩),.pointer (some a),.int .u64 150]]).run Tryz.prog W=.ok (.agg #[.pointer (some ⟨3,29,none⟩),.pointer (some p),.int .u64 386]) W:=by
 change Sem.run _ (ReflectliteValue.parts (.agg #[.pointer (some ⟨3,133,none⟩),.pointer (some a),.int .u64 150]) >>= _) _=_
 simp only[Sem.run_bind,yB,Result.andThen]
 simp[ReflectliteValue.elem,loadVar,isAgg,underlying,Tryz.underlying133,ha,Result.andThen,Ip,VI]
theorem Iq (a:Addr)(w:World):(ReflectliteValue.parts (.agg #[.pointer (some ⟨3,29,none⟩),.pointer (some a),.int .u64 386])).run Tryz.prog w=.ok (some (29,a,386)) w:=by kernel_rfl
theorem Ir (a:Addr)(w:World):(ReflectliteValue.parts (.agg #[.pointer (some ⟨3,29,none⟩),.pointer (some a),.int .u64 130])).run Tryz.prog w=.ok (some (29,a,130)) w:=by kernel_rfl
theorem Iu (w:World):(Rtype.directlyAssignable 29 29).run Tryz.prog w=.ok true w:=by kernel_rfl
theorem Tx (ta b:Addr)(n:Int)(old:Value)(W:World)(hb:W.cell? b=some (.int .i64 n))(ht:W.cell? ta=some old)(hf:W.frozen? ta=false):
  (ReflectliteValue.set #[.agg #[.pointer (some ⟨3,29,none⟩),.pointer (some ta),.int .u64 386],.agg #[.pointer (some ⟨3,29,none⟩),.pointer (some b),.int .u64 130]]).run Tryz.prog W=.ok (.tuple #[]) (W.setCell ta (.int .i64 n)):=by
 change Sem.run _ (ReflectliteValue.parts (.agg #[.pointer (some ⟨3,29,none⟩),.pointer (some ta),.int .u64 386]) >>= λ_=>ReflectliteValue.parts (.agg #[.pointer (some ⟨3,29,none⟩),.pointer (some b),.int .u64 130]) >>= _) _=_
 simp only[Sem.run_bind,Iq,Ir,Result.andThen]
 simp[ReflectliteValue.flagAddr,loadVar,isAgg,underlying,Tryz.underlying29,hb,Result.andThen,Iu,storeVar,Value.cells,storeCells,Addr.add]
 rw[run_store Tryz.prog W ta _ _ (by rfl)]
 simp[ht,hf]
theorem PS (v:Value)(xT:TypeId)(w:World):(Instr.typeAssert (.iface 191 v) xT 240 true).run Tryz.prog w=.ok (.tuple #[.nilIface,.bool false]) w:=run_typeAssert_lacksB Tryz.underlying240 (by kernel_rfl) (by kernel_rfl) v xT w
theorem DJ (v:Value)(xT:TypeId)(w:World):(Instr.typeAssert (.iface 191 v) xT 243 true).run Tryz.prog w=.ok (.tuple #[.iface 191 v,.bool true]) w:=run_typeAssert_hasB Tryz.underlying243 (by kernel_rfl) v xT w
theorem Iw (v:Value)(w:World):(Go.method 459 191 v "Unwrap").run Tryz.prog w=.ok (268,v) w:=by kernel_rfl
theorem Ty (t:Value)(w:World):Calls Tryz.prog 68 #[.nilIface,t] w λe w'=>e=.returned (.bool false)/\w'=w:=by
 go_enter Tryz.func68,Tryz.ntmps68
 go_wp2
 go_ret
 exact⟨rfl,rfl⟩
theorem Tz (s:ByteArray)(n:Int)(t:Addr)(old:Value)(w:World)(hg:w.cell? ⟨0,0,none⟩=some (.iface 236 (.agg #[.pointer (some ⟨3,86,none⟩)])))(ht0:w.cell? t=some old)(hf0:w.frozen? t=false):
  Calls Tryz.prog 68 #[.iface 191 (.agg #[.string s,.int .i64 n]),.iface 133 (.pointer (some t))] w λev w'=>ev=.returned (.bool true)/\∃ w1,Below w.heap.size w w1/\w'=w1.setCell t (.int .i64 n):=by
 have h6:=@run_callFunc_extern Tryz.prog 117 _ (λargs=>ReflectliteValue.unpack (args.getD 0 (.tuple #[]))) Tryz.func117 (by kernel_rfl) (by kernel_rfl) (by kernel_rfl) (by kernel_rfl)
 have h7:=@run_callFunc_extern Tryz.prog 118 _ (ReflectliteValue.methodAny (ReflectliteValue.valueError "reflectlite.Value.Type" 0) (λt _ _ _=>ReflectliteType.toType t)) Tryz.func118 (by kernel_rfl) (by kernel_rfl) (by kernel_rfl) (by kernel_rfl)
 have h8:=@run_callFunc_extern Tryz.prog 119 _ (ReflectliteValue.method (ReflectliteValue.valueError "reflectlite.Value.IsNil" 0) ReflectliteValue.isNil) Tryz.func119 (by kernel_rfl) (by kernel_rfl) (by kernel_rfl) (by kernel_rfl)
 have h27:=@run_callFunc_extern Tryz.prog 260 _ (ReflectliteType.abiMethod λt=>do pure (.int .u8 (<-Rtype.kind t))) Tryz.func260 (by kernel_rfl) (by kernel_rfl) (by kernel_rfl) (by kernel_rfl)
 have h37:=@run_callFunc_extern Tryz.prog 275 _ (ReflectliteType.method ReflectliteType.elem) Tryz.func275 (by kernel_rfl) (by kernel_rfl) (by kernel_rfl) (by kernel_rfl)
 have h38:=@run_callFunc_extern Tryz.prog 276 _ (ReflectliteType.relation "Implements" ReflectliteType.implements_) Tryz.func276 (by kernel_rfl) (by kernel_rfl) (by kernel_rfl) (by kernel_rfl)
 have h10:=@run_callFunc_extern Tryz.prog 151 _ ReflectliteType.typeOf Tryz.func151 (by kernel_rfl) (by kernel_rfl) (by kernel_rfl) (by kernel_rfl)
 have h35:=@run_callFunc_extern Tryz.prog 273 _ (ReflectliteType.relation "AssignableTo" ReflectliteType.assignableTo) Tryz.func273 (by kernel_rfl) (by kernel_rfl) (by kernel_rfl) (by kernel_rfl)
 have h11:=@run_callFunc_extern Tryz.prog 166 _ (ReflectliteValue.method (ReflectliteValue.valueError "reflectlite.Value.Elem" 0) ReflectliteValue.elem) Tryz.func166 (by kernel_rfl) (by kernel_rfl) (by kernel_rfl) (by kernel_rfl)
 have h12:=@run_callFunc_extern Tryz.prog 167 _ ReflectliteValue.set Tryz.func167 (by kernel_rfl) (by kernel_rfl) (by kernel_rfl) (by kernel_rfl)
 have tR:=DF
 have tN:=DI
 have mA:=PL
 have aR:=PO
 have aN:=PR
 have vN:=Io
 have f6:=Im
 have f7:=Li
 have mK:=Lj
 have mE:=Lr
 have mI:=Ls
 have kP:=Ll
 have kN:=Lm
 have eP:=Lt
 have iN:=PN
 have nA:=PS
 have uW:=DJ
 have mU:=Iw
 have hlt:0<w.heap.size:=World.block_lt_of_cell? w _ hg
 have htl:t.block<w.heap.size:=World.block_lt_of_cell? w _ ht0
 have n8:=Lp ⟨w.heap.size,0,none⟩ t ((w.alloc (.cells #[.pointer (some t)] 133)).alloc (.cells #[.pointer (some ⟨3,133,none⟩),.pointer (some ⟨w.heap.size,0,none⟩),.int .u64 150] 181)) (by simp)
 have hg2:((w.alloc (.cells #[.pointer (some t)] 133)).alloc (.cells #[.pointer (some ⟨3,133,none⟩),.pointer (some ⟨w.heap.size,0,none⟩),.int .u64 150] 181)).cell? ⟨0,0,none⟩=some (.iface 236 (.agg #[.pointer (some ⟨3,86,none⟩)])):=by
  rw[World.cell?_alloc_lt _ _ ⟨0,0,none⟩ (by simp<;>omega),World.cell?_alloc_lt _ _ ⟨0,0,none⟩ hlt];exact hg
 have el:=Lu ⟨w.heap.size,0,none⟩ t ((((w.alloc (.cells #[.pointer (some t)] 133)).alloc (.cells #[.pointer (some ⟨3,133,none⟩),.pointer (some ⟨w.heap.size,0,none⟩),.int .u64 150] 181)).alloc (.cells #[.pointer (some ⟨3,133,none⟩),.pointer (some ⟨w.heap.size,0,none⟩),.int .u64 150] 181)).alloc (.cells #[.string s,.int .i64 n] 191))
  (by rw[World.cell?_alloc_lt _ _ ⟨w.heap.size,0,none⟩ (by simp;omega),World.cell?_alloc_lt _ _ ⟨w.heap.size,0,none⟩ (by simp;omega)];simp)
 have st:=Tx t ⟨w.heap.size+1+1+1+1,0,none⟩ n old (((((w.alloc (.cells #[.pointer (some t)] 133)).alloc (.cells #[.pointer (some ⟨3,133,none⟩),.pointer (some ⟨w.heap.size,0,none⟩),.int .u64 150] 181)).alloc (.cells #[.pointer (some ⟨3,133,none⟩),.pointer (some ⟨w.heap.size,0,none⟩),.int .u64 150] 181)).alloc (.cells #[.string s,.int .i64 n] 191)).alloc (.cells #[.int .i64 n] 29))
  (by rw[World.cell?_alloc_at _ _ _ _ (by simp)];rfl)
  (by rw[World.cell?_alloc_lt _ _ t (by simp;omega),World.cell?_alloc_lt _ _ t (by simp;omega),World.cell?_alloc_lt _ _ t (by simp;omega),World.cell?_alloc_lt _ _ t (by simp;omega),World.cell?_alloc_lt _ _ t htl];exact ht0)
  (by rw[World.frozen?_alloc_old _ _ t (by simp;omega),World.frozen?_alloc_old _ _ t (by simp;omega),World.frozen?_alloc_old _ _ t (by simp;omega),World.frozen?_alloc_old _ _ t (by simp;omega),World.frozen?_alloc_old _ _ t (Nat.ne_of_lt htl)];exact hf0)
 go_enter Tryz.func68,Tryz.ntmps68
 go_wp2
 refine wp_loop_rounds 2 ?_
 rw[rounds_succ]
 go_wp2
 rw[rounds_succ]
 go_wp2
 go_ret
 exact⟨rfl,_,(((Go.Joins.below_alloc2 _ _ _).alloc (by simp;omega) _).alloc (by simp;omega) _).alloc (by simp;omega) _,rfl⟩
def vP (w:World):Prop:=w.cell? ⟨0,0,none⟩=some (.iface 236 (.agg #[.pointer (some ⟨3,86,none⟩)]))
theorem vP.below {w w':World}(h:vP w)(hb:Below w.heap.size w w'):vP w':=by
 unfold vP
 rw[hb.cell (p:=⟨0,0,none⟩) (World.block_lt_of_cell? w _ h)];exact h
theorem Lv:Tryz.prog.globalNamed "errors.errorType" = some 0:=by kernel_rfl
theorem VJ:(Tryz.prog.cutTypes.find? (·.1 == "internal/reflectlite.rtype")).map (·.2)=some 236:=by kernel_rfl
theorem TA:((List.range 359).filter λt=>Tryz.prog.rowNamed t [101,114,114,111,114])=[86]:=by kernel_rfl
theorem PT:Tryz.prog.types.size=359:=by kernel_rfl
theorem zJ {W:World}(h:laidMetH Tryz.prog [("errors.errorType",Rows.laid_errors_errorType),("carillon/sha.first",Rows.laid_carillon_sha_first),("carillon/sha.roundWords",Rows.laid_carillon_sha_roundWords)] W):vP W:=by
 have h':laidMet Tryz.prog [("carillon/sha.first",Rows.laid_carillon_sha_first),("carillon/sha.roundWords",Rows.laid_carillon_sha_roundWords)] W/\handlesMet Tryz.prog [("errors.errorType",Rows.laid_errors_errorType)] W:=h
 obtain⟨name,u,ty,e1,e2,e3,e4,e5⟩:=h'.2 _ (List.mem_singleton.2 rfl)
 have en:name=[101,114,114,111,114]:=(Option.some.inj e1).symm
 subst en
 obtain rfl:=Option.some.inj (VJ.symm.trans e2)
 have hm:ty∈(List.range 359).filter λt=>Tryz.prog.rowNamed t [101,114,114,111,114]:=List.mem_filter.2 ⟨List.mem_range.2 (by rw[<-PT];exact e3),e4⟩
 rw[TA] at hm
 obtain rfl:=List.mem_singleton.1 hm
 have hh:typeHandle Tryz.prog 86=.pointer (some ⟨3,86,none⟩):=by kernel_rfl
 rw[hh] at e5
 simpa [vP] using World.var?_cell Lv e5 0
theorem zK (w:World):Calls Tryz.prog 34 #[.nilIface] w λe w'=>e=.returned (.int .i64 0)/\Below w.heap.size w w':=by
 go_enter Tryz.func34,Tryz.ntmps34
 go_wp2_with (go_at_call 68;refine(Ty _ _).mono ?_;rintro e w' ⟨rfl,rfl⟩)
 go_ret
 exact⟨rfl,Go.Joins.below_alloc1 _ _⟩
def fE (s:ByteArray)(n:Int):Value:=.iface 191 (.agg #[.string s,.int .i64 n])
theorem zL (s:ByteArray)(n:Int)(w:World)(hE:vP w):Calls Tryz.prog 34 #[fE s n] w λe w'=>e=.returned (.int .i64 n)/\Below w.heap.size w w':=by
 unfold fE
 have hg:(w.alloc (.cells #[.int .i64 0] 29)).cell? ⟨0,0,none⟩=_:=hE.below (Go.Joins.below_alloc1 _ _)
 have HK:=Tz s n ⟨w.heap.size,0,none⟩ (.int .i64 0) (w.alloc (.cells #[.int .i64 0] 29)) hg (by simp) (by simp)
 clear hg hE
 go_enter Tryz.func34,Tryz.ntmps34
 go_wp2_with fail
 refine HK.mono ?_
 rintro e w' ⟨rfl,w1,hb,rfl⟩
 have hc:w1.cell? ⟨w.heap.size,0,none⟩=some (.int .i64 0):=by rw[hb.cell (p:=⟨w.heap.size,0,none⟩) (by simp)];simp
 have hc2:(w1.setCell ⟨w.heap.size,0,none⟩ (.int .i64 n)).cell? ⟨w.heap.size,0,none⟩=some (.int .i64 n):=by first|exact World.cell?_setCell_same _ _ _ _ hc|exact World.cell?_setCell_same _ _ _ hc|simp[hc]
 have hB:Below w.heap.size w (w1.setCell ⟨w.heap.size,0,none⟩ (.int .i64 n)):=((Go.Joins.below_alloc1 w (.cells #[.int .i64 0] 29)).trans (hb.mono (by simp))).setCell (by simp) _
 go_wp2
 go_ret
 exact⟨rfl,hB⟩
end Go.Proofs.YtmffplhaclnehaaGreatDoor
