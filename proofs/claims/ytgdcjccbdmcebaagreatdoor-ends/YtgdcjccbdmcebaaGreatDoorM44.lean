import Derived.Test.YtgdcjccbdmcebaaGreatDoorM15
set_option linter.unusedSimpArgs false
set_option linter.unusedVariables false
set_option maxHeartbeats 4000000
set_option maxRecDepth 100000
open Go.Proofs.Tryz
namespace Go.Proofs.YtgdcjccbdmcebaaGreatDoor
open Go.RowKit Go.Extern.Stop Go.Stop Go.Extern
theorem MN (w:World):(ReflectliteType.relation "AssignableTo" ReflectliteType.assignableTo #[.agg #[.pointer (some ⟨4,32,none⟩)], .iface 340 (.agg #[.pointer (some ⟨4,172,none⟩)])]).run prog w= .ok (.bool false) w:=by kernel_rfl
theorem m_noAs (v:Value)(a:TypeId)(w:World):(Instr.typeAssert (.iface 32 v) a 344 true).run prog w= .ok (.tuple #[.nilIface, .bool false]) w:=run_typeAssert_lacksB underlying344 (by kernel_rfl) (by kernel_rfl) v a w
theorem Qw (v:Value)(a:TypeId)(w:World):(Instr.typeAssert (.iface 32 v) a 347 true).run prog w= .ok (.tuple #[.nilIface, .bool false]) w:=run_typeAssert_lacksB underlying347 (by kernel_rfl) (by kernel_rfl) v a w
theorem OO (v:Value)(a:TypeId)(w:World):(Instr.typeAssert (.iface 32 v) a 348 true).run prog w= .ok (.tuple #[.nilIface, .bool false]) w:=run_typeAssert_lacksB underlying348 (by kernel_rfl) (by kernel_rfl) v a w
theorem XY (x:Int)(t:Addr)(old:Value)(w:World)(hg:Az w)(e:w.cell? t=some old) :
  Calls prog 83 #[.iface 32 (.int .i64 x), .iface 174 (.pointer (some t))] w fun i w'=>i= .returned (.bool false)/\Below w.heap.size w w':=by
 have u:=@run_callFunc_extern prog 132 _ (fun args=>ReflectliteValue.unpack (args.getD 0 (.tuple #[]))) func132 (by kernel_rfl) (by kernel_rfl) (by kernel_rfl) (by kernel_rfl);have v:=@run_callFunc_extern prog 133 _ (ReflectliteValue.methodAny (ReflectliteValue.valueError "reflectlite.Value.Type" 0) (fun t _ _ _=>ReflectliteType.toType t)) func133 (by kernel_rfl) (by kernel_rfl) (by kernel_rfl) (by kernel_rfl);have y:=@run_callFunc_extern prog 134 _ (ReflectliteValue.method (ReflectliteValue.valueError "reflectlite.Value.IsNil" 0) ReflectliteValue.isNil) func134 (by kernel_rfl) (by kernel_rfl) (by kernel_rfl) (by kernel_rfl);have k:=@run_callFunc_extern prog 312 _ (ReflectliteType.abiMethod fun t=>do pure (.int .u8 (<-Rtype.kind t))) func312 (by kernel_rfl) (by kernel_rfl) (by kernel_rfl) (by kernel_rfl);have m:=@run_callFunc_extern prog 354 _ (ReflectliteType.method ReflectliteType.elem) func354 (by kernel_rfl) (by kernel_rfl) (by kernel_rfl) (by kernel_rfl);have n:=@run_callFunc_extern prog 355 _ (ReflectliteType.relation "Implements" ReflectliteType.implements_) func355 (by kernel_rfl) (by kernel_rfl) (by kernel_rfl) (by kernel_rfl);have j:=@run_callFunc_extern prog 136 _ ReflectliteType.typeOf func136 (by kernel_rfl) (by kernel_rfl) (by kernel_rfl) (by kernel_rfl);have l:=@run_callFunc_extern prog 352 _ (ReflectliteType.relation "AssignableTo" ReflectliteType.assignableTo) func352 (by kernel_rfl) (by kernel_rfl) (by kernel_rfl) (by kernel_rfl);have G:=Hi;have z:=Zb0;have g:=MN;have f6:=Mb;have f7:=WI;have C:=Em;have A:=El;have B:=Zcp;have s:=Pc;have r:=RU;have h:=WD;have i25:=Hf;have D:=m_noAs;have F:=Qw;have E:=OO;have n8:=RT ⟨w.heap.size,0,none⟩ t ((w.alloc (.cells #[.pointer (some t)] 174)).alloc (.cells #[.pointer (some ⟨4,174,none⟩), .pointer (some ⟨w.heap.size,0,none⟩), .int .u64 150] 246)) (by simp);have d:0<w.heap.size:=World.block_lt_of_cell? _ _ hg
 have p:((w.alloc (.cells #[.pointer (some t)] 174)).alloc (.cells #[.pointer (some ⟨4,174,none⟩), .pointer (some ⟨w.heap.size,0,none⟩), .int .u64 150] 246)).cell? ⟨0,0,none⟩=some (.iface 340 (.agg #[.pointer (some ⟨4,98,none⟩)])):=by
  rw[World.cell?_alloc_lt _ _ ⟨0,0,none⟩ (by simp<;>omega),World.cell?_alloc_lt _ _ ⟨0,0,none⟩ d];exact hg
 have q:t.block<w.heap.size:=World.block_lt_of_cell? _ _ e;have f:Hid (∀a b c,Below w.heap.size w (((w.alloc a).alloc b).alloc c)):=Zz fun a b c=>(((Zk _ _).alloc (Zx _) _).alloc (by simp) _).alloc (by simp;omega) _
 go_enter func83,ntmps83
 go_wp2
 refine wp_loop_rounds 1 ?_;rw[rounds_succ]
 go_wp2
 go_ret
 exact⟨rfl,f.o _ _ _⟩
theorem Tq (t:Addr)(w:World):(ReflectliteValue.unpack (.iface 178 (.pointer (some t)))).run prog w
  = .ok (.agg #[.pointer (some ⟨4,178,none⟩), .pointer (some ⟨w.heap.size,0,none⟩), .int .u64 150]) (w.alloc (.cells #[.pointer (some t)] 178)):=by kernel_rfl
theorem n_type (a:Addr)(w:World):(ReflectliteValue.methodAny (ReflectliteValue.valueError "reflectlite.Value.Type" 0) (fun t _ _ _=>ReflectliteType.toType t) #[.agg #[.pointer (some ⟨4,178,none⟩), .pointer (some a), .int .u64 150]]).run prog w
  = .ok (.iface 340 (.agg #[.pointer (some ⟨4,178,none⟩)])) w:=by kernel_rfl
theorem YR (w:World):((ReflectliteType.abiMethod fun t=>Functor.map (fun a:Nat=>Value.int IntKind.u8 (a:Int)) (Rtype.kind t)) #[.pointer (some ⟨4,178,none⟩)]).run prog w= .ok (.int .u8 22) w:=by kernel_rfl
theorem n_kind (w:World):((ReflectliteType.abiMethod fun t=>Functor.map (fun a:Nat=>Value.int IntKind.u8 (a:Int)) (Rtype.kind t)) #[.pointer (some ⟨4,32,none⟩)]).run prog w= .ok (.int .u8 2) w:=by kernel_rfl
theorem RH (a:Addr)(w:World):(ReflectliteValue.parts (.agg #[.pointer (some ⟨4,178,none⟩), .pointer (some a), .int .u64 150])).run prog w= .ok (some (178,a,150)) w:=by kernel_rfl
theorem YQ (a p:Addr)(W:World)(b:W.cell? a=some (.pointer (some p))) :
  (ReflectliteValue.method (ReflectliteValue.valueError "reflectlite.Value.IsNil" 0) ReflectliteValue.isNil #[.agg #[.pointer (some ⟨4,178,none⟩), .pointer (some a), .int .u64 150]]).run prog W= .ok (.bool false) W:=by
 rw[rlm];simp only[Sem.run_bind,RH,Result.andThen];simp[ReflectliteValue.isNil,loadVar,isAgg,underlying,underlying178,b,Result.andThen]
theorem n_elem (w:World):(ReflectliteType.method ReflectliteType.elem #[.agg #[.pointer (some ⟨4,178,none⟩)]]).run prog w= .ok (.iface 340 (.agg #[.pointer (some ⟨4,32,none⟩)])) w:=by kernel_rfl
theorem MR (w:World):(ReflectliteType.relation "Implements" ReflectliteType.implements_ #[.agg #[.pointer (some ⟨4,32,none⟩)], .iface 340 (.agg #[.pointer (some ⟨4,98,none⟩)])]).run prog w= .ok (.bool true) w:=by kernel_rfl
theorem MQ (w:World):(ReflectliteType.relation "AssignableTo" ReflectliteType.assignableTo #[.agg #[.pointer (some ⟨4,32,none⟩)], .iface 340 (.agg #[.pointer (some ⟨4,32,none⟩)])]).run prog w= .ok (.bool true) w:=by kernel_rfl
theorem Qz (x:Int)(w:World):(ReflectliteValue.unpack (.iface 32 (.int .i64 x))).run prog w
  = .ok (.agg #[.pointer (some ⟨4,32,none⟩), .pointer (some ⟨w.heap.size,0,none⟩), .int .u64 130]) (w.alloc (.cells #[.int .i64 x] 32)):=by kernel_rfl
theorem VT (w:World):(Rtype.elem? 178).run prog w= .ok (some 32) w:=by kernel_rfl
theorem n_mk (p:Addr)(w:World):(ReflectliteValue.mk 32 p ReflectliteValue.flagAddr).run prog w= .ok (.agg #[.pointer (some ⟨4,32,none⟩), .pointer (some p), .int .u64 386]) w:=by kernel_rfl
theorem YP (a p:Addr)(W:World)(b:W.cell? a=some (.pointer (some p))) :
  (ReflectliteValue.method (ReflectliteValue.valueError "reflectlite.Value.Elem" 0) ReflectliteValue.elem #[.agg #[.pointer (some ⟨4,178,none⟩), .pointer (some a), .int .u64 150]]).run prog W
   = .ok (.agg #[.pointer (some ⟨4,32,none⟩), .pointer (some p), .int .u64 386]) W:=by
 rw[rlm];simp only[Sem.run_bind,RH,Result.andThen];simp[ReflectliteValue.elem,loadVar,isAgg,underlying,underlying178,b,Result.andThen,VT,n_mk]
theorem VU (a:Addr)(w:World):(ReflectliteValue.parts (.agg #[.pointer (some ⟨4,32,none⟩), .pointer (some a), .int .u64 386])).run prog w= .ok (some (32,a,386)) w:=by kernel_rfl
theorem VV (a:Addr)(w:World):(ReflectliteValue.parts (.agg #[.pointer (some ⟨4,32,none⟩), .pointer (some a), .int .u64 130])).run prog w= .ok (some (32,a,130)) w:=by kernel_rfl
theorem VS (w:World):(Rtype.directlyAssignable 32 32).run prog w= .ok true w:=by kernel_rfl
theorem n_set (a b:Addr)(x:Int)(old:Value)(W:World)(c:W.cell? b=some (.int .i64 x))(d:W.cell? a=some old)(hf:W.frozen? a=false) :
  (ReflectliteValue.set #[.agg #[.pointer (some ⟨4,32,none⟩), .pointer (some a), .int .u64 386], .agg #[.pointer (some ⟨4,32,none⟩), .pointer (some b), .int .u64 130]]).run prog W
   = .ok (.tuple #[]) (W.setCell a (.int .i64 x)):=by
 delta ReflectliteValue.set
 rw[RW];simp only[Sem.run_bind,VU,VV,Result.andThen];simp[ReflectliteValue.flagAddr,loadVar,isAgg,underlying,underlying32,c,Result.andThen,VS,storeVar,Value.cells,storeCells,Addr.add];rw[run_store prog W a _ _ (by rfl)];simp[d,hf]
def asE (w:World)(x:Int)(t:Addr):World :=
 ((((w.alloc (.cells #[.pointer (some t)] 178)).alloc (.cells #[.pointer (some ⟨4,178,none⟩), .pointer (some ⟨w.heap.size,0,none⟩), .int .u64 150] 246)).alloc (.cells #[.pointer (some ⟨4,178,none⟩), .pointer (some ⟨w.heap.size,0,none⟩), .int .u64 150] 246)).alloc (.cells #[.int .i64 x] 32)).setCell t (.int .i64 x)
theorem Sq (x:Int)(t:Addr)(old:Value)(w:World)(hg:Az w)(a:w.cell? t=some old)(c:w.frozen? t=false) :
  Calls prog 83 #[.iface 32 (.int .i64 x), .iface 178 (.pointer (some t))] w fun g w'=>g= .returned (.bool true)/\w'=asE w x t:=by
 have s:=@run_callFunc_extern prog 132 _ (fun args=>ReflectliteValue.unpack (args.getD 0 (.tuple #[]))) func132 (by kernel_rfl) (by kernel_rfl) (by kernel_rfl) (by kernel_rfl);have u:=@run_callFunc_extern prog 133 _ (ReflectliteValue.methodAny (ReflectliteValue.valueError "reflectlite.Value.Type" 0) (fun t _ _ _=>ReflectliteType.toType t)) func133 (by kernel_rfl) (by kernel_rfl) (by kernel_rfl) (by kernel_rfl);have v:=@run_callFunc_extern prog 134 _ (ReflectliteValue.method (ReflectliteValue.valueError "reflectlite.Value.IsNil" 0) ReflectliteValue.isNil) func134 (by kernel_rfl) (by kernel_rfl) (by kernel_rfl) (by kernel_rfl);have k:=@run_callFunc_extern prog 312 _ (ReflectliteType.abiMethod fun t=>do pure (.int .u8 (<-Rtype.kind t))) func312 (by kernel_rfl) (by kernel_rfl) (by kernel_rfl) (by kernel_rfl);have m:=@run_callFunc_extern prog 354 _ (ReflectliteType.method ReflectliteType.elem) func354 (by kernel_rfl) (by kernel_rfl) (by kernel_rfl) (by kernel_rfl);have n:=@run_callFunc_extern prog 355 _ (ReflectliteType.relation "Implements" ReflectliteType.implements_) func355 (by kernel_rfl) (by kernel_rfl) (by kernel_rfl) (by kernel_rfl);have h:=@run_callFunc_extern prog 136 _ ReflectliteType.typeOf func136 (by kernel_rfl) (by kernel_rfl) (by kernel_rfl) (by kernel_rfl);have l:=@run_callFunc_extern prog 352 _ (ReflectliteType.relation "AssignableTo" ReflectliteType.assignableTo) func352 (by kernel_rfl) (by kernel_rfl) (by kernel_rfl) (by kernel_rfl);have i:=@run_callFunc_extern prog 205 _ (ReflectliteValue.method (ReflectliteValue.valueError "reflectlite.Value.Elem" 0) ReflectliteValue.elem) func205 (by kernel_rfl) (by kernel_rfl) (by kernel_rfl) (by kernel_rfl);have j:=@run_callFunc_extern prog 206 _ ReflectliteValue.set func206 (by kernel_rfl) (by kernel_rfl) (by kernel_rfl) (by kernel_rfl);have C:=Hi;have y:=Zb0;have e:=MQ;have r:=Qz;have f6:=Tq;have f7:=n_type;have B:=Em;have z:=El;have A:=Zcp;have q:=YR;have p:=n_kind;have f:=n_elem;have i25:=MR;have n8:=YQ ⟨w.heap.size,0,none⟩ t ((w.alloc (.cells #[.pointer (some t)] 178)).alloc (.cells #[.pointer (some ⟨4,178,none⟩), .pointer (some ⟨w.heap.size,0,none⟩), .int .u64 150] 246)) (by simp);have d:0<w.heap.size:=World.block_lt_of_cell? _ _ hg
 have o:((w.alloc (.cells #[.pointer (some t)] 178)).alloc (.cells #[.pointer (some ⟨4,178,none⟩), .pointer (some ⟨w.heap.size,0,none⟩), .int .u64 150] 246)).cell? ⟨0,0,none⟩=some (.iface 340 (.agg #[.pointer (some ⟨4,98,none⟩)])):=by
  rw[World.cell?_alloc_lt _ _ ⟨0,0,none⟩ (by simp<;>omega),World.cell?_alloc_lt _ _ ⟨0,0,none⟩ d];exact hg
 have b:t.block<w.heap.size:=World.block_lt_of_cell? _ _ a;have el:=YP ⟨w.heap.size,0,none⟩ t (((w.alloc (.cells #[.pointer (some t)] 178)).alloc (.cells #[.pointer (some ⟨4,178,none⟩), .pointer (some ⟨w.heap.size,0,none⟩), .int .u64 150] 246)).alloc (.cells #[.pointer (some ⟨4,178,none⟩), .pointer (some ⟨w.heap.size,0,none⟩), .int .u64 150] 246)) (by rw[World.cell?_alloc_lt _ _ ⟨w.heap.size,0,none⟩ (by simp;omega)];simp)
 have st:=n_set t ⟨w.heap.size+1+1+1,0,none⟩ x old ((((w.alloc (.cells #[.pointer (some t)] 178)).alloc (.cells #[.pointer (some ⟨4,178,none⟩), .pointer (some ⟨w.heap.size,0,none⟩), .int .u64 150] 246)).alloc (.cells #[.pointer (some ⟨4,178,none⟩), .pointer (some ⟨w.heap.size,0,none⟩), .int .u64 150] 246)).alloc (.cells #[.int .i64 x] 32))
  (by rw[World.cell?_alloc_at _ _ _ _ (by simp)];rfl)
  (by rw[World.cell?_alloc_lt _ _ t (by simp;omega),World.cell?_alloc_lt _ _ t (by simp;omega),World.cell?_alloc_lt _ _ t (by simp;omega),World.cell?_alloc_lt _ _ t b];exact a)
  (by rw[World.frozen?_alloc_old _ _ t (by simp;omega),World.frozen?_alloc_old _ _ t (by simp;omega),World.frozen?_alloc_old _ _ t (by simp;omega),World.frozen?_alloc_old _ _ t (Nat.ne_of_lt b)];exact c)
 go_enter func83,ntmps83
 go_wp2
 refine wp_loop_rounds 1 ?_;rw[rounds_succ]
 go_wp2
 go_ret
 exact⟨rfl,rfl⟩
theorem LM (x:Int)(w:World) :
  Calls prog 84 #[.iface 32 (.int .i64 x), .iface 32 (.int .i64 x)] w fun e w'=>e= .returned (.bool true)/\w'=w:=by
 have a:=@run_callFunc_extern prog 353 _ (ReflectliteType.method fun t=>do Rtype.noPackHeld "Comparable" t;pure (.bool (<-typeInfo t).comparable)) func353 (by kernel_rfl) (by kernel_rfl) (by kernel_rfl) (by kernel_rfl);have c:=@run_callFunc_extern prog 136 _ ReflectliteType.typeOf func136 (by kernel_rfl) (by kernel_rfl) (by kernel_rfl) (by kernel_rfl);have f:=Hi;have b:=Hh;have d:=Zds;have heq:=Go.Lib.run_eql_iface_int (P:=prog) w (k:= .i64) x x underlying98 Nl underlying32
 go_enter func84,ntmps84
 go_wp2
 refine wp_loop_rounds 1 ?_;rw[rounds_succ]
 go_wp2
 go_ret
 exact⟨rfl,rfl⟩
theorem Sn (w:World)(B:Nat)(x:Int)(t:Nat)(a:B<=t)(b:t<w.heap.size):Below B w (asE w x ⟨t,0,none⟩):=by
 unfold asE;refine Below.setCell (Below.alloc (Below.alloc (Below.alloc (Below.alloc (Zk _ _) ?_ _) ?_ _) ?_ _) ?_ _) ?_ _
 ·omega
 ·simp;omega
 ·simp;omega
 ·simp;omega
 ·exact a
theorem UA (w:World)(x:Int)(t:Nat)(old:Value)(h:w.cell? ⟨t,0,none⟩=some old):(asE w x ⟨t,0,none⟩).cell? ⟨t,0,none⟩=some (.int .i64 x):=by
 have a:t<w.heap.size:=World.block_lt_of_cell? _ _ h;unfold asE;refine World.cell?_setCell_same _ _ _ (u:=old) ?_;rw[World.cell?_alloc_lt _ _ ⟨t,0,none⟩ (by simp;omega),World.cell?_alloc_lt _ _ ⟨t,0,none⟩ (by simp;omega),World.cell?_alloc_lt _ _ ⟨t,0,none⟩ (by simp;omega),World.cell?_alloc_lt _ _ ⟨t,0,none⟩ a];exact h
theorem Jf (x:Int)(w:World)(hg:Az w) :
  Calls prog 40 #[.iface 32 (.int .i64 x)] w fun e w'=>e= .returned (.tuple #[.int .i64 x, .int .i64 (-1)])/\Below w.heap.size w w':=by
 have k:=Zz hg;clear hg;have l:Hid (∀a b,Below w.heap.size w ((w.alloc a).alloc b)):=Zz fun a b=>((Zk _ _).alloc (Zx _) _).alloc (by simp) _
 go_enter func40,ntmps40
 go_wp2_with fail
 refine (XY x ⟨w.heap.size,0,none⟩ (.pointer none) _ (k.o.Aj (l.o _ _)) (by simp)).mono ?_;rintro e g ⟨rfl,c⟩;have c1:g.cell? ⟨w.heap.size+1,0,none⟩=some (.int .i64 0):=cell_later c (by simp);have m:g.frozen? ⟨w.heap.size+1,0,none⟩=false:=(c.frozen (p:=⟨w.heap.size+1,0,none⟩) (by simp)).trans (by simp);have i:=c.size;have f:Hid (Below w.heap.size w g):=Zz ((l.o _ _).trans (c.mono (by simp;omega)));clear c;go_wp2_with fail
 refine (Sq x ⟨w.heap.size+1,0,none⟩ (.int .i64 0) g (k.o.Aj f.o) c1 m).mono ?_;rintro e j ⟨rfl,d⟩;have c2:j.cell? ⟨w.heap.size+1,0,none⟩=some (.int .i64 x):=by rw[d];exact UA _ _ _ _ c1
 have h:Hid (Below w.heap.size w j):=Zz (by rw[d];exact f.o.trans (Sn _ _ _ _ (by omega) (by simp at i;omega)));clear d c1 m;go_wp2_with fail
 refine (LM x j).mono ?_;rintro e n ⟨rfl,rfl⟩;go_wp2_with fail
 go_ret2
 exact⟨rfl,h.o⟩
end Go.Proofs.YtgdcjccbdmcebaaGreatDoor
