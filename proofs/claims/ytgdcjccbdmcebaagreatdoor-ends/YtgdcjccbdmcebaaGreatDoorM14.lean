import Derived.Test.YtgdcjccbdmcebaaGreatDoorM02
import Derived.LaidEql
import Derived.Stop.Asserts
import Derived.RowKitTokens
set_option linter.unusedSimpArgs false
set_option linter.unusedVariables false
set_option maxHeartbeats 4000000
namespace Go.Proofs.YtgdcjccbdmcebaaGreatDoor
open Tryz
open Go.RowKit Go.Extern.Stop Go.Stop Go.Extern
theorem Mb (t:Addr)(w:World):(ReflectliteValue.unpack (.iface 174 (.pointer (some t)))).run prog w
  = .ok (.agg #[.pointer (some ⟨4,174,none⟩), .pointer (some ⟨w.heap.size,0,none⟩), .int .u64 150]) (w.alloc (.cells #[.pointer (some t)] 174)):=by kernel_rfl
theorem WI (a:Addr)(w:World):(ReflectliteValue.methodAny (ReflectliteValue.valueError "reflectlite.Value.Type" 0) (fun t _ _ _=>ReflectliteType.toType t) #[.agg #[.pointer (some ⟨4,174,none⟩), .pointer (some a), .int .u64 150]]).run prog w
  = .ok (.iface 340 (.agg #[.pointer (some ⟨4,174,none⟩)])) w:=by kernel_rfl
theorem Em (h:Value)(w:World):(Go.method 596 340 (.agg #[h]) "Kind").run prog w= .ok (312,h) w:=by kernel_rfl
theorem Pc (w:World):((ReflectliteType.abiMethod fun t=>Functor.map (fun a:Nat=>Value.int IntKind.u8 (a:Int)) (Rtype.kind t)) #[.pointer (some ⟨4,174,none⟩)]).run prog w= .ok (.int .u8 22) w:=by kernel_rfl
theorem RU (w:World):((ReflectliteType.abiMethod fun t=>Functor.map (fun a:Nat=>Value.int IntKind.u8 (a:Int)) (Rtype.kind t)) #[.pointer (some ⟨4,172,none⟩)]).run prog w= .ok (.int .u8 22) w:=by kernel_rfl
theorem rlm (z:Sem Value)(f:TypeId->Addr->Nat->Nat->Sem Value)(v:Value) :
  ReflectliteValue.method z f #[v]=(do match <-ReflectliteValue.parts v with | none=>z | some (t,a,fl)=>f t a fl (fl % 32)):=rfl
theorem RV (a:Addr)(w:World):(ReflectliteValue.parts (.agg #[.pointer (some ⟨4,174,none⟩), .pointer (some a), .int .u64 150])).run prog w= .ok (some (174,a,150)) w:=by kernel_rfl
theorem RT (a p:Addr)(W:World)(b:W.cell? a=some (.pointer (some p))) :
  (ReflectliteValue.method (ReflectliteValue.valueError "reflectlite.Value.IsNil" 0) ReflectliteValue.isNil #[.agg #[.pointer (some ⟨4,174,none⟩), .pointer (some a), .int .u64 150]]).run prog W= .ok (.bool false) W:=by
 rw[rlm];simp only[Sem.run_bind,RV,Result.andThen];simp[ReflectliteValue.isNil,loadVar,isAgg,underlying,underlying174,b,Result.andThen]
theorem El (h:Value)(w:World):(Go.method 596 340 (.agg #[h]) "Elem").run prog w= .ok (354, .agg #[h]) w:=by kernel_rfl
theorem Zcp (h:Value)(w:World):(Go.method 596 340 (.agg #[h]) "Implements").run prog w= .ok (355, .agg #[h]) w:=by kernel_rfl
theorem Zb0 (h:Value)(w:World):(Go.method 596 340 (.agg #[h]) "AssignableTo").run prog w= .ok (352, .agg #[h]) w:=by kernel_rfl
theorem WD (w:World):(ReflectliteType.method ReflectliteType.elem #[.agg #[.pointer (some ⟨4,174,none⟩)]]).run prog w= .ok (.iface 340 (.agg #[.pointer (some ⟨4,172,none⟩)])) w:=by kernel_rfl
theorem Hf (w:World):(ReflectliteType.relation "Implements" ReflectliteType.implements_ #[.agg #[.pointer (some ⟨4,172,none⟩)], .iface 340 (.agg #[.pointer (some ⟨4,98,none⟩)])]).run prog w= .ok (.bool true) w:=by kernel_rfl
theorem WJ (v:Value)(w:World):(ReflectliteType.typeOf #[.iface 172 v]).run prog w= .ok (.iface 340 (.agg #[.pointer (some ⟨4,172,none⟩)])) w:=by kernel_rfl
theorem Nj (w:World):(ReflectliteType.relation "AssignableTo" ReflectliteType.assignableTo #[.agg #[.pointer (some ⟨4,172,none⟩)], .iface 340 (.agg #[.pointer (some ⟨4,172,none⟩)])]).run prog w= .ok (.bool true) w:=by kernel_rfl
theorem QP (e:Addr)(w:World):(ReflectliteValue.unpack (.iface 172 (.pointer (some e)))).run prog w
  = .ok (.agg #[.pointer (some ⟨4,172,none⟩), .pointer (some ⟨w.heap.size,0,none⟩), .int .u64 150]) (w.alloc (.cells #[.pointer (some e)] 172)):=by kernel_rfl
theorem WE (w:World):(Rtype.elem? 174).run prog w= .ok (some 172) w:=by kernel_rfl
theorem r_mk (p:Addr)(w:World):(ReflectliteValue.mk 172 p ReflectliteValue.flagAddr).run prog w= .ok (.agg #[.pointer (some ⟨4,172,none⟩), .pointer (some p), .int .u64 406]) w:=by kernel_rfl
theorem Zt (a p:Addr)(W:World)(b:W.cell? a=some (.pointer (some p))) :
  (ReflectliteValue.method (ReflectliteValue.valueError "reflectlite.Value.Elem" 0) ReflectliteValue.elem #[.agg #[.pointer (some ⟨4,174,none⟩), .pointer (some a), .int .u64 150]]).run prog W
   = .ok (.agg #[.pointer (some ⟨4,172,none⟩), .pointer (some p), .int .u64 406]) W:=by
 rw[rlm];simp only[Sem.run_bind,RV,Result.andThen];simp[ReflectliteValue.elem,loadVar,isAgg,underlying,underlying174,b,Result.andThen,WE,r_mk]
theorem RW (v x:Value)(a:Value->Value->Sem Value)(b:Array Value->Sem Value):ReflectliteValue.set.match_3 (fun _=>Sem Value) #[v,x] a b=a v x:=rfl
theorem WG (a:Addr)(w:World):(ReflectliteValue.parts (.agg #[.pointer (some ⟨4,172,none⟩), .pointer (some a), .int .u64 406])).run prog w= .ok (some (172,a,406)) w:=by kernel_rfl
theorem WH (a:Addr)(w:World):(ReflectliteValue.parts (.agg #[.pointer (some ⟨4,172,none⟩), .pointer (some a), .int .u64 150])).run prog w= .ok (some (172,a,150)) w:=by kernel_rfl
theorem WC (w:World):(Rtype.directlyAssignable 172 172).run prog w= .ok true w:=by kernel_rfl
theorem r_set (a b e:Addr)(old:Value)(W:World)(c:W.cell? b=some (.pointer (some e)))(d:W.cell? a=some old)(hf:W.frozen? a=false) :
  (ReflectliteValue.set #[.agg #[.pointer (some ⟨4,172,none⟩), .pointer (some a), .int .u64 406], .agg #[.pointer (some ⟨4,172,none⟩), .pointer (some b), .int .u64 150]]).run prog W
   = .ok (.tuple #[]) (W.setCell a (.pointer (some e))):=by
 delta ReflectliteValue.set
 rw[RW];simp only[Sem.run_bind,WG,WH,Result.andThen];simp[ReflectliteValue.flagAddr,loadVar,isAgg,underlying,underlying172,c,Result.andThen,WC,storeVar,Value.cells,storeCells,Addr.add];rw[run_store prog W a _ _ (by rfl)];simp[d,hf]
def asW (w:World)(e t:Addr):World :=
 ((((w.alloc (.cells #[.pointer (some t)] 174)).alloc (.cells #[.pointer (some ⟨4,174,none⟩), .pointer (some ⟨w.heap.size,0,none⟩), .int .u64 150] 246)).alloc (.cells #[.pointer (some ⟨4,174,none⟩), .pointer (some ⟨w.heap.size,0,none⟩), .int .u64 150] 246)).alloc (.cells #[.pointer (some e)] 172)).setCell t (.pointer (some e))
theorem as_hit (e t:Addr)(old:Value)(w:World)(hg:w.cell? ⟨0,0,none⟩=some (.iface 340 (.agg #[.pointer (some ⟨4,98,none⟩)])))(a:w.cell? t=some old)(c:w.frozen? t=false) :
  Calls prog 83 #[.iface 172 (.pointer (some e)), .iface 174 (.pointer (some t))] w fun h w'=>h= .returned (.bool true)/\w'=asW w e t:=by
 have u:=@run_callFunc_extern prog 132 _ (fun args=>ReflectliteValue.unpack (args.getD 0 (.tuple #[]))) func132 (by kernel_rfl) (by kernel_rfl) (by kernel_rfl) (by kernel_rfl);have v:=@run_callFunc_extern prog 133 _ (ReflectliteValue.methodAny (ReflectliteValue.valueError "reflectlite.Value.Type" 0) (fun t _ _ _=>ReflectliteType.toType t)) func133 (by kernel_rfl) (by kernel_rfl) (by kernel_rfl) (by kernel_rfl);have x:=@run_callFunc_extern prog 134 _ (ReflectliteValue.method (ReflectliteValue.valueError "reflectlite.Value.IsNil" 0) ReflectliteValue.isNil) func134 (by kernel_rfl) (by kernel_rfl) (by kernel_rfl) (by kernel_rfl);have l:=@run_callFunc_extern prog 312 _ (ReflectliteType.abiMethod fun t=>do pure (.int .u8 (<-Rtype.kind t))) func312 (by kernel_rfl) (by kernel_rfl) (by kernel_rfl) (by kernel_rfl);have n:=@run_callFunc_extern prog 354 _ (ReflectliteType.method ReflectliteType.elem) func354 (by kernel_rfl) (by kernel_rfl) (by kernel_rfl) (by kernel_rfl);have o:=@run_callFunc_extern prog 355 _ (ReflectliteType.relation "Implements" ReflectliteType.implements_) func355 (by kernel_rfl) (by kernel_rfl) (by kernel_rfl) (by kernel_rfl);have i:=@run_callFunc_extern prog 136 _ ReflectliteType.typeOf func136 (by kernel_rfl) (by kernel_rfl) (by kernel_rfl) (by kernel_rfl);have m:=@run_callFunc_extern prog 352 _ (ReflectliteType.relation "AssignableTo" ReflectliteType.assignableTo) func352 (by kernel_rfl) (by kernel_rfl) (by kernel_rfl) (by kernel_rfl);have j:=@run_callFunc_extern prog 205 _ (ReflectliteValue.method (ReflectliteValue.valueError "reflectlite.Value.Elem" 0) ReflectliteValue.elem) func205 (by kernel_rfl) (by kernel_rfl) (by kernel_rfl) (by kernel_rfl);have k:=@run_callFunc_extern prog 206 _ ReflectliteValue.set func206 (by kernel_rfl) (by kernel_rfl) (by kernel_rfl) (by kernel_rfl);have C:=WJ;have y:=Zb0;have f:=Nj;have s:=QP;have f6:=Mb;have f7:=WI;have B:=Em;have z:=El;have A:=Zcp;have r:=Pc;have q:=RU;have g:=WD;have i25:=Hf;have n8:=RT ⟨w.heap.size,0,none⟩ t ((w.alloc (.cells #[.pointer (some t)] 174)).alloc (.cells #[.pointer (some ⟨4,174,none⟩), .pointer (some ⟨w.heap.size,0,none⟩), .int .u64 150] 246)) (by simp);have d:0<w.heap.size:=World.block_lt_of_cell? _ _ hg
 have p:((w.alloc (.cells #[.pointer (some t)] 174)).alloc (.cells #[.pointer (some ⟨4,174,none⟩), .pointer (some ⟨w.heap.size,0,none⟩), .int .u64 150] 246)).cell? ⟨0,0,none⟩=some (.iface 340 (.agg #[.pointer (some ⟨4,98,none⟩)])):=by
  rw[World.cell?_alloc_lt _ _ ⟨0,0,none⟩ (by simp<;>omega),World.cell?_alloc_lt _ _ ⟨0,0,none⟩ d];exact hg
 have b:t.block<w.heap.size:=World.block_lt_of_cell? _ _ a;have el:=Zt ⟨w.heap.size,0,none⟩ t (((w.alloc (.cells #[.pointer (some t)] 174)).alloc (.cells #[.pointer (some ⟨4,174,none⟩), .pointer (some ⟨w.heap.size,0,none⟩), .int .u64 150] 246)).alloc (.cells #[.pointer (some ⟨4,174,none⟩), .pointer (some ⟨w.heap.size,0,none⟩), .int .u64 150] 246)) (by rw[World.cell?_alloc_lt _ _ ⟨w.heap.size,0,none⟩ (by simp;omega)];simp)
 have st:=r_set t ⟨w.heap.size+1+1+1,0,none⟩ e old ((((w.alloc (.cells #[.pointer (some t)] 174)).alloc (.cells #[.pointer (some ⟨4,174,none⟩), .pointer (some ⟨w.heap.size,0,none⟩), .int .u64 150] 246)).alloc (.cells #[.pointer (some ⟨4,174,none⟩), .pointer (some ⟨w.heap.size,0,none⟩), .int .u64 150] 246)).alloc (.cells #[.pointer (some e)] 172))
  (by rw[World.cell?_alloc_at _ _ _ _ (by simp)];rfl)
  (by rw[World.cell?_alloc_lt _ _ t (by simp;omega),World.cell?_alloc_lt _ _ t (by simp;omega),World.cell?_alloc_lt _ _ t (by simp;omega),World.cell?_alloc_lt _ _ t b];exact a)
  (by rw[World.frozen?_alloc_old _ _ t (by simp;omega),World.frozen?_alloc_old _ _ t (by simp;omega),World.frozen?_alloc_old _ _ t (by simp;omega),World.frozen?_alloc_old _ _ t (Nat.ne_of_lt b)];exact c)
 go_enter func83,ntmps83
 go_wp2
 refine wp_loop_rounds 1 ?_;rw[rounds_succ]
 go_wp2
 go_ret
 exact⟨rfl,rfl⟩
theorem Hi (v:Value)(w:World):(Extern.ReflectliteType.typeOf #[.iface 32 v]).run prog w= .ok (.iface 340 (.agg #[.pointer (some ⟨4,32,none⟩)])) w:=by kernel_rfl
theorem Zds (v:Value)(w:World):(Go.method 596 340 v "Comparable").run prog w= .ok (353,v) w:=by kernel_rfl
theorem s_noIs (v:Value)(a:TypeId)(w:World):(Instr.typeAssert (.iface 172 v) a 351 true).run prog w= .ok (.tuple #[.nilIface, .bool false]) w:=run_typeAssert_lacksB underlying351 (by kernel_rfl) (by kernel_rfl) v a w
theorem Pg (v:Value)(a:TypeId)(w:World):(Instr.typeAssert (.iface 172 v) a 347 true).run prog w= .ok (.tuple #[.iface 172 v, .bool true]) w:=run_typeAssert_hasB underlying347 (by kernel_rfl) v a w
theorem KE (v:Value)(w:World):(Go.method 596 172 v "Unwrap").run prog w= .ok (347,v) w:=by kernel_rfl
end Go.Proofs.YtgdcjccbdmcebaaGreatDoor
