import Derived.Test.YtgdcjccbdmcebabGreatDoorM01
import Derived.LaidEql
import Derived.Stop.Asserts
import Derived.RowKitTokens
set_option linter.unusedSimpArgs false
set_option linter.unusedVariables false
namespace Go.Proofs.YtgdcjccbdmcebabGreatDoor
open Go.RowKit Go.Extern.Stop Go.Stop Go.Extern
theorem r_valueOf (t:Addr)(w:World):(ReflectliteValue.unpack (.iface 107 (.pointer (some t)))).run Tryz.prog w
  = .ok (.agg #[.pointer (some ⟨4,107,none⟩), .pointer (some ⟨w.heap.size,0,none⟩), .int .u64 150]) (w.alloc (.cells #[.pointer (some t)] 107)):=by kernel_rfl
theorem r_type (a:Addr)(w:World):(ReflectliteValue.methodAny (ReflectliteValue.valueError "reflectlite.Value.Type" 0) (fun t _ _ _=>ReflectliteType.toType t) #[.agg #[.pointer (some ⟨4,107,none⟩), .pointer (some a), .int .u64 150]]).run Tryz.prog w
  = .ok (.iface 236 (.agg #[.pointer (some ⟨4,107,none⟩)])) w:=by kernel_rfl
theorem r_methodKind (h:Value)(w:World):(Go.method 513 236 (.agg #[h]) "Kind").run Tryz.prog w= .ok (243,h) w:=by kernel_rfl
theorem r_kindPP (w:World):((ReflectliteType.abiMethod fun t=>Functor.map (fun a:Nat=>Value.int IntKind.u8 (a:Int)) (Rtype.kind t)) #[.pointer (some ⟨4,107,none⟩)]).run Tryz.prog w= .ok (.int .u8 22) w:=by kernel_rfl
theorem r_kindP (w:World):((ReflectliteType.abiMethod fun t=>Functor.map (fun a:Nat=>Value.int IntKind.u8 (a:Int)) (Rtype.kind t)) #[.pointer (some ⟨4,105,none⟩)]).run Tryz.prog w= .ok (.int .u8 22) w:=by kernel_rfl
theorem rlm (z:Sem Value)(f:TypeId->Addr->Nat->Nat->Sem Value)(v:Value) :
  ReflectliteValue.method z f #[v]=(do match <-ReflectliteValue.parts v with | none=>z | some (t,a,fl)=>f t a fl (fl % 32)):=rfl
theorem r_parts (a:Addr)(w:World):(ReflectliteValue.parts (.agg #[.pointer (some ⟨4,107,none⟩), .pointer (some a), .int .u64 150])).run Tryz.prog w= .ok (some (107,a,150)) w:=by kernel_rfl
theorem r_isNil (a p:Addr)(W:World)(ha:W.cell? a=some (.pointer (some p))) :
  (ReflectliteValue.method (ReflectliteValue.valueError "reflectlite.Value.IsNil" 0) ReflectliteValue.isNil #[.agg #[.pointer (some ⟨4,107,none⟩), .pointer (some a), .int .u64 150]]).run Tryz.prog W= .ok (.bool false) W:=by
 rw [rlm]
 simp only [Sem.run_bind,r_parts,Result.andThen]
 simp [ReflectliteValue.isNil,loadVar,isAgg,underlying,Tryz.underlying107,ha,Result.andThen]
theorem r_methodElem (h:Value)(w:World):(Go.method 513 236 (.agg #[h]) "Elem").run Tryz.prog w= .ok (287, .agg #[h]) w:=by kernel_rfl
theorem Zcg (h:Value)(w:World):(Go.method 513 236 (.agg #[h]) "Implements").run Tryz.prog w= .ok (288, .agg #[h]) w:=by kernel_rfl
theorem Zbu (h:Value)(w:World):(Go.method 513 236 (.agg #[h]) "AssignableTo").run Tryz.prog w= .ok (285, .agg #[h]) w:=by kernel_rfl
theorem r_elem (w:World):(ReflectliteType.method ReflectliteType.elem #[.agg #[.pointer (some ⟨4,107,none⟩)]]).run Tryz.prog w= .ok (.iface 236 (.agg #[.pointer (some ⟨4,105,none⟩)])) w:=by kernel_rfl
theorem r_implements (w:World):(ReflectliteType.relation "Implements" ReflectliteType.implements_ #[.agg #[.pointer (some ⟨4,105,none⟩)], .iface 236 (.agg #[.pointer (some ⟨4,74,none⟩)])]).run Tryz.prog w= .ok (.bool true) w:=by kernel_rfl
theorem r_typeOf (v:Value)(w:World):(ReflectliteType.typeOf #[.iface 105 v]).run Tryz.prog w= .ok (.iface 236 (.agg #[.pointer (some ⟨4,105,none⟩)])) w:=by kernel_rfl
theorem r_assignable (w:World):(ReflectliteType.relation "AssignableTo" ReflectliteType.assignableTo #[.agg #[.pointer (some ⟨4,105,none⟩)], .iface 236 (.agg #[.pointer (some ⟨4,105,none⟩)])]).run Tryz.prog w= .ok (.bool true) w:=by kernel_rfl
theorem r_valueOfP (e:Addr)(w:World):(ReflectliteValue.unpack (.iface 105 (.pointer (some e)))).run Tryz.prog w
  = .ok (.agg #[.pointer (some ⟨4,105,none⟩), .pointer (some ⟨w.heap.size,0,none⟩), .int .u64 150]) (w.alloc (.cells #[.pointer (some e)] 105)):=by kernel_rfl
theorem r_elemOf (w:World):(Rtype.elem? 107).run Tryz.prog w= .ok (some 105) w:=by kernel_rfl
theorem r_mk (p:Addr)(w:World):(ReflectliteValue.mk 105 p ReflectliteValue.flagAddr).run Tryz.prog w= .ok (.agg #[.pointer (some ⟨4,105,none⟩), .pointer (some p), .int .u64 406]) w:=by kernel_rfl
theorem r_elemV (a p:Addr)(W:World)(ha:W.cell? a=some (.pointer (some p))) :
  (ReflectliteValue.method (ReflectliteValue.valueError "reflectlite.Value.Elem" 0) ReflectliteValue.elem #[.agg #[.pointer (some ⟨4,107,none⟩), .pointer (some a), .int .u64 150]]).run Tryz.prog W
   = .ok (.agg #[.pointer (some ⟨4,105,none⟩), .pointer (some p), .int .u64 406]) W:=by
 rw [rlm]
 simp only [Sem.run_bind,r_parts,Result.andThen]
 simp [ReflectliteValue.elem,loadVar,isAgg,underlying,Tryz.underlying107,ha,Result.andThen,r_elemOf,r_mk]
theorem set_two (v x:Value)(h1:Value->Value->Sem Value)(h2:Array Value->Sem Value):ReflectliteValue.set.match_3 (fun _=>Sem Value) #[v,x] h1 h2=h1 v x:=rfl
theorem r_partsA (a:Addr)(w:World):(ReflectliteValue.parts (.agg #[.pointer (some ⟨4,105,none⟩), .pointer (some a), .int .u64 406])).run Tryz.prog w= .ok (some (105,a,406)) w:=by kernel_rfl
theorem r_partsP (a:Addr)(w:World):(ReflectliteValue.parts (.agg #[.pointer (some ⟨4,105,none⟩), .pointer (some a), .int .u64 150])).run Tryz.prog w= .ok (some (105,a,150)) w:=by kernel_rfl
theorem r_direct (w:World):(Rtype.directlyAssignable 105 105).run Tryz.prog w= .ok true w:=by kernel_rfl
theorem r_set (ta b e:Addr)(old:Value)(W:World)(hb:W.cell? b=some (.pointer (some e)))(ht:W.cell? ta=some old)(hf:W.frozen? ta=false) :
  (ReflectliteValue.set #[.agg #[.pointer (some ⟨4,105,none⟩), .pointer (some ta), .int .u64 406], .agg #[.pointer (some ⟨4,105,none⟩), .pointer (some b), .int .u64 150]]).run Tryz.prog W
   = .ok (.tuple #[]) (W.setCell ta (.pointer (some e))):=by
 delta ReflectliteValue.set
 rw [set_two]
 simp only [Sem.run_bind,r_partsA,r_partsP,Result.andThen]
 simp [ReflectliteValue.flagAddr,loadVar,isAgg,underlying,Tryz.underlying105,hb,Result.andThen,r_direct,storeVar,Value.cells,storeCells,Addr.add]
 rw [run_store Tryz.prog W ta _ _ (by rfl)]
 simp [ht,hf]
def asW (w:World)(e t:Addr):World :=
 ((((w.alloc (.cells #[.pointer (some t)] 107)).alloc (.cells #[.pointer (some ⟨4,107,none⟩), .pointer (some ⟨w.heap.size,0,none⟩), .int .u64 150] 161)).alloc (.cells #[.pointer (some ⟨4,107,none⟩), .pointer (some ⟨w.heap.size,0,none⟩), .int .u64 150] 161)).alloc (.cells #[.pointer (some e)] 105)).setCell t (.pointer (some e))
set_option maxHeartbeats 4000000 in
theorem as_hit (e t:Addr)(old:Value)(w:World)(hg:w.cell? ⟨0,0,none⟩=some (.iface 236 (.agg #[.pointer (some ⟨4,74,none⟩)])))(ht0:w.cell? t=some old)(hf0:w.frozen? t=false) :
  Calls Tryz.prog 49 #[.iface 105 (.pointer (some e)), .iface 107 (.pointer (some t))] w fun ev w'=>ev= .returned (.bool true)/\w'=asW w e t:=by
 have h6:=@run_callFunc_extern Tryz.prog 77 _ (fun args=>ReflectliteValue.unpack (args.getD 0 (.tuple #[]))) Tryz.func77 (by kernel_rfl) (by kernel_rfl) (by kernel_rfl) (by kernel_rfl)
 have h7:=@run_callFunc_extern Tryz.prog 78 _ (ReflectliteValue.methodAny (ReflectliteValue.valueError "reflectlite.Value.Type" 0) (fun t _ _ _=>ReflectliteType.toType t)) Tryz.func78 (by kernel_rfl) (by kernel_rfl) (by kernel_rfl) (by kernel_rfl)
 have h8:=@run_callFunc_extern Tryz.prog 79 _ (ReflectliteValue.method (ReflectliteValue.valueError "reflectlite.Value.IsNil" 0) ReflectliteValue.isNil) Tryz.func79 (by kernel_rfl) (by kernel_rfl) (by kernel_rfl) (by kernel_rfl)
 have h27:=@run_callFunc_extern Tryz.prog 243 _ (ReflectliteType.abiMethod fun t=>do pure (.int .u8 (<-Rtype.kind t))) Tryz.func243 (by kernel_rfl) (by kernel_rfl) (by kernel_rfl) (by kernel_rfl)
 have h37:=@run_callFunc_extern Tryz.prog 287 _ (ReflectliteType.method ReflectliteType.elem) Tryz.func287 (by kernel_rfl) (by kernel_rfl) (by kernel_rfl) (by kernel_rfl)
 have h38:=@run_callFunc_extern Tryz.prog 288 _ (ReflectliteType.relation "Implements" ReflectliteType.implements_) Tryz.func288 (by kernel_rfl) (by kernel_rfl) (by kernel_rfl) (by kernel_rfl)
 have h10:=@run_callFunc_extern Tryz.prog 81 _ ReflectliteType.typeOf Tryz.func81 (by kernel_rfl) (by kernel_rfl) (by kernel_rfl) (by kernel_rfl)
 have h35:=@run_callFunc_extern Tryz.prog 285 _ (ReflectliteType.relation "AssignableTo" ReflectliteType.assignableTo) Tryz.func285 (by kernel_rfl) (by kernel_rfl) (by kernel_rfl) (by kernel_rfl)
 have h11:=@run_callFunc_extern Tryz.prog 126 _ (ReflectliteValue.method (ReflectliteValue.valueError "reflectlite.Value.Elem" 0) ReflectliteValue.elem) Tryz.func126 (by kernel_rfl) (by kernel_rfl) (by kernel_rfl) (by kernel_rfl)
 have h12:=@run_callFunc_extern Tryz.prog 127 _ ReflectliteValue.set Tryz.func127 (by kernel_rfl) (by kernel_rfl) (by kernel_rfl) (by kernel_rfl)
 have tO:=r_typeOf
 have mA:=Zbu
 have a25:=r_assignable
 have v25:=r_valueOfP
 have f6:=r_valueOf
 have f7:=r_type
 have mK:=r_methodKind
 have mE:=r_methodElem
 have mI:=Zcg
 have k27:=r_kindPP
 have k25:=r_kindP
 have e27:=r_elem
 have i25:=r_implements
 have n8:=r_isNil ⟨w.heap.size,0,none⟩ t ((w.alloc (.cells #[.pointer (some t)] 107)).alloc (.cells #[.pointer (some ⟨4,107,none⟩), .pointer (some ⟨w.heap.size,0,none⟩), .int .u64 150] 161)) (by simp)
 have hlt:0<w.heap.size:=World.block_lt_of_cell? _ _ hg
 have hg2:((w.alloc (.cells #[.pointer (some t)] 107)).alloc (.cells #[.pointer (some ⟨4,107,none⟩), .pointer (some ⟨w.heap.size,0,none⟩), .int .u64 150] 161)).cell? ⟨0,0,none⟩=some (.iface 236 (.agg #[.pointer (some ⟨4,74,none⟩)])):=by
  rw [World.cell?_alloc_lt _ _ ⟨0,0,none⟩ (by simp<;>omega),World.cell?_alloc_lt _ _ ⟨0,0,none⟩ hlt];exact hg
 have htl:t.block<w.heap.size:=World.block_lt_of_cell? _ _ ht0
 have el:=r_elemV ⟨w.heap.size,0,none⟩ t (((w.alloc (.cells #[.pointer (some t)] 107)).alloc (.cells #[.pointer (some ⟨4,107,none⟩), .pointer (some ⟨w.heap.size,0,none⟩), .int .u64 150] 161)).alloc (.cells #[.pointer (some ⟨4,107,none⟩), .pointer (some ⟨w.heap.size,0,none⟩), .int .u64 150] 161)) (by rw [World.cell?_alloc_lt _ _ ⟨w.heap.size,0,none⟩ (by simp;omega)];simp)
 have st:=r_set t ⟨w.heap.size+1+1+1,0,none⟩ e old ((((w.alloc (.cells #[.pointer (some t)] 107)).alloc (.cells #[.pointer (some ⟨4,107,none⟩), .pointer (some ⟨w.heap.size,0,none⟩), .int .u64 150] 161)).alloc (.cells #[.pointer (some ⟨4,107,none⟩), .pointer (some ⟨w.heap.size,0,none⟩), .int .u64 150] 161)).alloc (.cells #[.pointer (some e)] 105))
  (by rw [World.cell?_alloc_at _ _ _ _ (by simp)];rfl)
  (by rw [World.cell?_alloc_lt _ _ t (by simp;omega),World.cell?_alloc_lt _ _ t (by simp;omega),World.cell?_alloc_lt _ _ t (by simp;omega),World.cell?_alloc_lt _ _ t htl];exact ht0)
  (by rw [World.frozen?_alloc_old _ _ t (by simp;omega),World.frozen?_alloc_old _ _ t (by simp;omega),World.frozen?_alloc_old _ _ t (by simp;omega),World.frozen?_alloc_old _ _ t (Nat.ne_of_lt htl)];exact hf0)
 go_enter Tryz.func49,Tryz.ntmps49
 go_wp2
 refine wp_loop_rounds 1 ?_
 rw [rounds_succ]
 go_wp2
 go_ret
 exact⟨rfl,rfl⟩
theorem s_typeOf (v:Value)(w:World):(Extern.ReflectliteType.typeOf #[.iface 36 v]).run Tryz.prog w= .ok (.iface 236 (.agg #[.pointer (some ⟨4,36,none⟩)])) w:=by kernel_rfl
theorem Zdk (v:Value)(w:World):(Go.method 513 236 v "Comparable").run Tryz.prog w= .ok (286,v) w:=by kernel_rfl
theorem s_noIs (v:Value)(xT:TypeId)(w:World):(Instr.typeAssert (.iface 105 v) xT 247 true).run Tryz.prog w= .ok (.tuple #[.nilIface, .bool false]) w:=run_typeAssert_lacksB Tryz.underlying247 (by kernel_rfl) (by kernel_rfl) v xT w
theorem s_hasUnwrap (v:Value)(xT:TypeId)(w:World):(Instr.typeAssert (.iface 105 v) xT 243 true).run Tryz.prog w= .ok (.tuple #[.iface 105 v, .bool true]) w:=run_typeAssert_hasB Tryz.underlying243 (by kernel_rfl) v xT w
theorem s_methodUnwrap (v:Value)(w:World):(Go.method 513 105 v "Unwrap").run Tryz.prog w= .ok (280,v) w:=by kernel_rfl
end Go.Proofs.YtgdcjccbdmcebabGreatDoor
