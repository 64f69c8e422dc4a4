import Derived.Test.YtgdcjccbdmcebaaGreatDoorM11
set_option linter.all false
set_option maxHeartbeats 4000000
set_option maxRecDepth 100000
open Go.Proofs.Tryz
open Go renaming underlying->QDm,rounds_succ->QGv,wp_loop_rounds->QGt,run_typeAssert_lacksB->QJy
open Go.Result renaming andThen->QDt
open Go.World renaming frozen?_alloc_old->QDy,block_lt_of_cell?->QDv,cell?_alloc_lt->QEb
namespace Go.Proofs.YtgdcjccbdmcebaaGreatDoor
open Go.RowKit Go.Extern.Stop Go.Stop Go.Extern
theorem MM (w:World):(ReflectliteType.relation "AssignableTo" ReflectliteType.assignableTo #[.agg #[.pointer (some ⟨4,32,none⟩)],.iface 340 (.agg #[.pointer (some ⟨4,172,none⟩)])]).run prog w=.ok (.bool false) w:=by kernel_rfl
theorem m_noAs (v:Value)(a:TypeId)(w:World):(Instr.typeAssert (.iface 32 v) a 344 true).run prog w=.ok (.tuple #[.nilIface,.bool false]) w:=QJy underlying344 (by kernel_rfl) (by kernel_rfl) v a w
theorem Qq (v:Value)(a:TypeId)(w:World):(Instr.typeAssert (.iface 32 v) a 347 true).run prog w=.ok (.tuple #[.nilIface,.bool false]) w:=QJy underlying347 (by kernel_rfl) (by kernel_rfl) v a w
theorem OD (v:Value)(a:TypeId)(w:World):(Instr.typeAssert (.iface 32 v) a 348 true).run prog w=.ok (.tuple #[.nilIface,.bool false]) w:=QJy underlying348 (by kernel_rfl) (by kernel_rfl) v a w
theorem XO (x:Int)(t:Addr)(old:Value)(w:World)(hg:Ay w)(e:w.cell? t=some old) :
  Calls prog 83 #[.iface 32 (.int .i64 x),.iface 174 (.pointer (some t))] w fun j w'=>j=.returned (.bool false)/\ZY w w':=by
 have v:=@run_callFunc_extern prog 132 _ (fun args=>ReflectliteValue.unpack (args.getD 0 (.tuple #[]))) func132 (by kernel_rfl) (by kernel_rfl) (by kernel_rfl) (by kernel_rfl);have y:=@run_callFunc_extern prog 133 _ (ReflectliteValue.methodAny (ReflectliteValue.valueError "reflectlite.Value.Type" 0) (fun t _ _ _=>ReflectliteType.toType t)) func133 (by kernel_rfl) (by kernel_rfl) (by kernel_rfl) (by kernel_rfl);have z:=@run_callFunc_extern prog 134 _ (ReflectliteValue.method (ReflectliteValue.valueError "reflectlite.Value.IsNil" 0) ReflectliteValue.isNil) func134 (by kernel_rfl) (by kernel_rfl) (by kernel_rfl) (by kernel_rfl);have l:=@run_callFunc_extern prog 312 _ (ReflectliteType.abiMethod fun t=>do pure (.int .u8 (<-Rtype.kind t))) func312 (by kernel_rfl) (by kernel_rfl) (by kernel_rfl) (by kernel_rfl);have n:=@run_callFunc_extern prog 354 _ (ReflectliteType.method ReflectliteType.elem) func354 (by kernel_rfl) (by kernel_rfl) (by kernel_rfl) (by kernel_rfl);have p:=@run_callFunc_extern prog 355 _ (ReflectliteType.relation "Implements" ReflectliteType.implements_) func355 (by kernel_rfl) (by kernel_rfl) (by kernel_rfl) (by kernel_rfl);have k:=@run_callFunc_extern prog 136 _ ReflectliteType.typeOf func136 (by kernel_rfl) (by kernel_rfl) (by kernel_rfl) (by kernel_rfl);have m:=@run_callFunc_extern prog 352 _ (ReflectliteType.relation "AssignableTo" ReflectliteType.assignableTo) func352 (by kernel_rfl) (by kernel_rfl) (by kernel_rfl) (by kernel_rfl);have H:=Hh;have A:=Zb3;have g:=MM;have f6:=Mc;have f7:=Wy;have D:=Eo;have B:=En;have C:=Zcq;have u:=ON;have s:=RI;have i:=Wu;have i25:=Hf;have E:=m_noAs;have G:=Qq;have F:=OD;have n8:=RH ⟨w.heap.size,0,none⟩ t ((w.alloc (.cells #[.pointer (some t)] 174)).alloc (.cells #[.pointer (some ⟨4,174,none⟩),.pointer (some ⟨w.heap.size,0,none⟩),.int .u64 150] 246)) (by simp);have d:0<w.heap.size:=QDv _ _ hg
 have q:((w.alloc (.cells #[.pointer (some t)] 174)).alloc (.cells #[.pointer (some ⟨4,174,none⟩),.pointer (some ⟨w.heap.size,0,none⟩),.int .u64 150] 246)).cell? ⟨0,0,none⟩=some (.iface 340 (.agg #[.pointer (some ⟨4,98,none⟩)])):=by
  rw[QEb _ _ ⟨0,0,none⟩ (by simp<;>omega),QEb _ _ ⟨0,0,none⟩ d];exact hg
 have r:t.block<w.heap.size:=QDv _ _ e;have f:Hid (∀a b c,ZY w (((w.alloc a).alloc b).alloc c)):=Zz fun a b c=>((ZV.alloc ZU _).alloc (by simp) _).alloc (by simp;omega) _
 go_enter func83,ntmps83
 go_wp2
 refine QGt 1 ?_;rw[QGv]
 go_wp2
 go_ret
 exact⟨rfl,f.o _ _ _⟩
theorem Tg (t:Addr)(w:World):(ReflectliteValue.unpack (.iface 178 (.pointer (some t)))).run prog w
  =.ok (.agg #[.pointer (some ⟨4,178,none⟩),.pointer (some ⟨w.heap.size,0,none⟩),.int .u64 150]) (w.alloc (.cells #[.pointer (some t)] 178)):=by kernel_rfl
theorem n_type (a:Addr)(w:World):(ReflectliteValue.methodAny (ReflectliteValue.valueError "reflectlite.Value.Type" 0) (fun t _ _ _=>ReflectliteType.toType t) #[.agg #[.pointer (some ⟨4,178,none⟩),.pointer (some a),.int .u64 150]]).run prog w
  =.ok (.iface 340 (.agg #[.pointer (some ⟨4,178,none⟩)])) w:=by kernel_rfl
theorem YF (w:World):((ReflectliteType.abiMethod fun t=>Functor.map (fun a:Nat=>Value.int IntKind.u8 (a:Int)) (Rtype.kind t)) #[.pointer (some ⟨4,178,none⟩)]).run prog w=.ok (.int .u8 22) w:=by kernel_rfl
theorem n_kind (w:World):((ReflectliteType.abiMethod fun t=>Functor.map (fun a:Nat=>Value.int IntKind.u8 (a:Int)) (Rtype.kind t)) #[.pointer (some ⟨4,32,none⟩)]).run prog w=.ok (.int .u8 2) w:=by kernel_rfl
theorem Ru (a:Addr)(w:World):(ReflectliteValue.parts (.agg #[.pointer (some ⟨4,178,none⟩),.pointer (some a),.int .u64 150])).run prog w=.ok (some (178,a,150)) w:=by kernel_rfl
theorem YE (a p:Addr)(W:World)(b:W.cell? a=some (.pointer (some p))) :
  (ReflectliteValue.method (ReflectliteValue.valueError "reflectlite.Value.IsNil" 0) ReflectliteValue.isNil #[.agg #[.pointer (some ⟨4,178,none⟩),.pointer (some a),.int .u64 150]]).run prog W=.ok (.bool false) W:=by
 rw[rlm];simp only[Sem.run_bind,Ru,QDt];simp[ReflectliteValue.isNil,loadVar,isAgg,QDm,underlying178,b,QDt]
theorem n_elem (w:World):(ReflectliteType.method ReflectliteType.elem #[.agg #[.pointer (some ⟨4,178,none⟩)]]).run prog w=.ok (.iface 340 (.agg #[.pointer (some ⟨4,32,none⟩)])) w:=by kernel_rfl
theorem MQ (w:World):(ReflectliteType.relation "Implements" ReflectliteType.implements_ #[.agg #[.pointer (some ⟨4,32,none⟩)],.iface 340 (.agg #[.pointer (some ⟨4,98,none⟩)])]).run prog w=.ok (.bool true) w:=by kernel_rfl
theorem MP (w:World):(ReflectliteType.relation "AssignableTo" ReflectliteType.assignableTo #[.agg #[.pointer (some ⟨4,32,none⟩)],.iface 340 (.agg #[.pointer (some ⟨4,32,none⟩)])]).run prog w=.ok (.bool true) w:=by kernel_rfl
theorem Qt (x:Int)(w:World):(ReflectliteValue.unpack (.iface 32 (.int .i64 x))).run prog w
  =.ok (.agg #[.pointer (some ⟨4,32,none⟩),.pointer (some ⟨w.heap.size,0,none⟩),.int .u64 130]) (w.alloc (.cells #[.int .i64 x] 32)):=by kernel_rfl
theorem VM (w:World):(Rtype.elem? 178).run prog w=.ok (some 32) w:=by kernel_rfl
theorem n_mk (p:Addr)(w:World):(ReflectliteValue.mk 32 p ReflectliteValue.flagAddr).run prog w=.ok (.agg #[.pointer (some ⟨4,32,none⟩),.pointer (some p),.int .u64 386]) w:=by kernel_rfl
theorem YD (a p:Addr)(W:World)(b:W.cell? a=some (.pointer (some p))) :
  (ReflectliteValue.method (ReflectliteValue.valueError "reflectlite.Value.Elem" 0) ReflectliteValue.elem #[.agg #[.pointer (some ⟨4,178,none⟩),.pointer (some a),.int .u64 150]]).run prog W
   =.ok (.agg #[.pointer (some ⟨4,32,none⟩),.pointer (some p),.int .u64 386]) W:=by
 rw[rlm];simp only[Sem.run_bind,Ru,QDt];simp[ReflectliteValue.elem,loadVar,isAgg,QDm,underlying178,b,QDt,VM,n_mk]
theorem VN (a:Addr)(w:World):(ReflectliteValue.parts (.agg #[.pointer (some ⟨4,32,none⟩),.pointer (some a),.int .u64 386])).run prog w=.ok (some (32,a,386)) w:=by kernel_rfl
theorem VO (a:Addr)(w:World):(ReflectliteValue.parts (.agg #[.pointer (some ⟨4,32,none⟩),.pointer (some a),.int .u64 130])).run prog w=.ok (some (32,a,130)) w:=by kernel_rfl
theorem VL (w:World):(Rtype.directlyAssignable 32 32).run prog w=.ok true w:=by kernel_rfl
theorem n_set (a b:Addr)(x:Int)(old:Value)(W:World)(hb:W.cell? b=some (.int .i64 x))(c:W.cell? a=some old)(hf:W.frozen? a=false) :
  (ReflectliteValue.set #[.agg #[.pointer (some ⟨4,32,none⟩),.pointer (some a),.int .u64 386],.agg #[.pointer (some ⟨4,32,none⟩),.pointer (some b),.int .u64 130]]).run prog W
   =.ok (.tuple #[]) (W.setCell a (.int .i64 x)):=by
 delta ReflectliteValue.set
 rw[RL];simp only[Sem.run_bind,VN,VO,QDt];simp[ReflectliteValue.flagAddr,loadVar,isAgg,QDm,underlying32,hb,QDt,VL,storeVar,Value.cells,storeCells,Addr.add];rw[run_store prog W a _ _ (by rfl)];simp[c,hf]
def asE (w:World)(x:Int)(t:Addr):World :=
 ((((w.alloc (.cells #[.pointer (some t)] 178)).alloc (.cells #[.pointer (some ⟨4,178,none⟩),.pointer (some ⟨w.heap.size,0,none⟩),.int .u64 150] 246)).alloc (.cells #[.pointer (some ⟨4,178,none⟩),.pointer (some ⟨w.heap.size,0,none⟩),.int .u64 150] 246)).alloc (.cells #[.int .i64 x] 32)).setCell t (.int .i64 x)
theorem Sg (x:Int)(t:Addr)(old:Value)(w:World)(hg:Ay w)(a:w.cell? t=some old)(c:w.frozen? t=false) :
  Calls prog 83 #[.iface 32 (.int .i64 x),.iface 178 (.pointer (some t))] w fun g w'=>g=.returned (.bool true)/\w'=asE w x t:=by
 have u:=@run_callFunc_extern prog 132 _ (fun args=>ReflectliteValue.unpack (args.getD 0 (.tuple #[]))) func132 (by kernel_rfl) (by kernel_rfl) (by kernel_rfl) (by kernel_rfl);have v:=@run_callFunc_extern prog 133 _ (ReflectliteValue.methodAny (ReflectliteValue.valueError "reflectlite.Value.Type" 0) (fun t _ _ _=>ReflectliteType.toType t)) func133 (by kernel_rfl) (by kernel_rfl) (by kernel_rfl) (by kernel_rfl);have y:=@run_callFunc_extern prog 134 _ (ReflectliteValue.method (ReflectliteValue.valueError "reflectlite.Value.IsNil" 0) ReflectliteValue.isNil) func134 (by kernel_rfl) (by kernel_rfl) (by kernel_rfl) (by kernel_rfl);have l:=@run_callFunc_extern prog 312 _ (ReflectliteType.abiMethod fun t=>do pure (.int .u8 (<-Rtype.kind t))) func312 (by kernel_rfl) (by kernel_rfl) (by kernel_rfl) (by kernel_rfl);have n:=@run_callFunc_extern prog 354 _ (ReflectliteType.method ReflectliteType.elem) func354 (by kernel_rfl) (by kernel_rfl) (by kernel_rfl) (by kernel_rfl);have o:=@run_callFunc_extern prog 355 _ (ReflectliteType.relation "Implements" ReflectliteType.implements_) func355 (by kernel_rfl) (by kernel_rfl) (by kernel_rfl) (by kernel_rfl);have i:=@run_callFunc_extern prog 136 _ ReflectliteType.typeOf func136 (by kernel_rfl) (by kernel_rfl) (by kernel_rfl) (by kernel_rfl);have m:=@run_callFunc_extern prog 352 _ (ReflectliteType.relation "AssignableTo" ReflectliteType.assignableTo) func352 (by kernel_rfl) (by kernel_rfl) (by kernel_rfl) (by kernel_rfl);have j:=@run_callFunc_extern prog 205 _ (ReflectliteValue.method (ReflectliteValue.valueError "reflectlite.Value.Elem" 0) ReflectliteValue.elem) func205 (by kernel_rfl) (by kernel_rfl) (by kernel_rfl) (by kernel_rfl);have k:=@run_callFunc_extern prog 206 _ ReflectliteValue.set func206 (by kernel_rfl) (by kernel_rfl) (by kernel_rfl) (by kernel_rfl);have D:=Hh;have z:=Zb3;have e:=MP;have s:=Qt;have f6:=Tg;have f7:=n_type;have C:=Eo;have A:=En;have B:=Zcq;have r:=YF;have q:=n_kind;have f:=n_elem;have i25:=MQ;have n8:=YE ⟨w.heap.size,0,none⟩ t ((w.alloc (.cells #[.pointer (some t)] 178)).alloc (.cells #[.pointer (some ⟨4,178,none⟩),.pointer (some ⟨w.heap.size,0,none⟩),.int .u64 150] 246)) (by simp);have d:0<w.heap.size:=QDv _ _ hg
 have p:((w.alloc (.cells #[.pointer (some t)] 178)).alloc (.cells #[.pointer (some ⟨4,178,none⟩),.pointer (some ⟨w.heap.size,0,none⟩),.int .u64 150] 246)).cell? ⟨0,0,none⟩=some (.iface 340 (.agg #[.pointer (some ⟨4,98,none⟩)])):=by
  rw[QEb _ _ ⟨0,0,none⟩ (by simp<;>omega),QEb _ _ ⟨0,0,none⟩ d];exact hg
 have b:t.block<w.heap.size:=QDv _ _ a;have el:=YD ⟨w.heap.size,0,none⟩ t (((w.alloc (.cells #[.pointer (some t)] 178)).alloc (.cells #[.pointer (some ⟨4,178,none⟩),.pointer (some ⟨w.heap.size,0,none⟩),.int .u64 150] 246)).alloc (.cells #[.pointer (some ⟨4,178,none⟩),.pointer (some ⟨w.heap.size,0,none⟩),.int .u64 150] 246)) (by rw[QEb _ _ ⟨w.heap.size,0,none⟩ (by simp;omega)];simp)
 have st:=n_set t ⟨w.heap.size+1+1+1,0,none⟩ x old ((((w.alloc (.cells #[.pointer (some t)] 178)).alloc (.cells #[.pointer (some ⟨4,178,none⟩),.pointer (some ⟨w.heap.size,0,none⟩),.int .u64 150] 246)).alloc (.cells #[.pointer (some ⟨4,178,none⟩),.pointer (some ⟨w.heap.size,0,none⟩),.int .u64 150] 246)).alloc (.cells #[.int .i64 x] 32))
  (by rw[World.cell?_alloc_at _ _ _ _ (by simp)];rfl)
  (by rw[QEb _ _ t (by simp;omega),QEb _ _ t (by simp;omega),QEb _ _ t (by simp;omega),QEb _ _ t b];exact a)
  (by rw[QDy _ _ t (by simp;omega),QDy _ _ t (by simp;omega),QDy _ _ t (by simp;omega),QDy _ _ t (Nat.ne_of_lt b)];exact c)
 go_enter func83,ntmps83
 go_wp2
 refine QGt 1 ?_;rw[QGv]
 go_wp2
 go_ret
 exact⟨rfl,rfl⟩
theorem LL (x:Int)(w:World) :
  Calls prog 84 #[.iface 32 (.int .i64 x),.iface 32 (.int .i64 x)] w fun e w'=>e=.returned (.bool true)/\w'=w:=by
 have a:=@run_callFunc_extern prog 353 _ (ReflectliteType.method fun t=>do Rtype.noPackHeld "Comparable" t;pure (.bool (<-typeInfo t).comparable)) func353 (by kernel_rfl) (by kernel_rfl) (by kernel_rfl) (by kernel_rfl);have c:=@run_callFunc_extern prog 136 _ ReflectliteType.typeOf func136 (by kernel_rfl) (by kernel_rfl) (by kernel_rfl) (by kernel_rfl);have f:=Hh;have b:=Hg;have d:=Zdw;have heq:=Go.Lib.run_eql_iface_int (P:=prog) w (k:=.i64) x x underlying98 Nk underlying32
 go_enter func84,ntmps84
 go_wp2
 refine QGt 1 ?_;rw[QGv]
 go_wp2
 go_ret
 exact⟨rfl,rfl⟩
theorem Se (w:World)(B:Nat)(x:Int)(t:Nat)(a:B<=t)(b:t<w.heap.size):Below B w (asE w x ⟨t,0,none⟩):=by
 unfold asE;refine Below.setCell (Below.alloc (Below.alloc (Below.alloc (Below.alloc ZV ?_ _) ?_ _) ?_ _) ?_ _) ?_ _
 .omega
 .simp;omega
 .simp;omega
 .simp;omega
 .exact a
theorem Ut (w:World)(x:Int)(t:Nat)(old:Value)(h:w.cell? ⟨t,0,none⟩=some old):(asE w x ⟨t,0,none⟩).cell? ⟨t,0,none⟩=some (.int .i64 x):=by
 have a:t<w.heap.size:=QDv _ _ h;unfold asE;refine World.cell?_setCell_same _ _ _ (u:=old) ?_;rw[QEb _ _ ⟨t,0,none⟩ (by simp;omega),QEb _ _ ⟨t,0,none⟩ (by simp;omega),QEb _ _ ⟨t,0,none⟩ (by simp;omega),QEb _ _ ⟨t,0,none⟩ a];exact h
theorem Jf (x:Int)(w:World)(hg:Ay w) :
  Calls prog 40 #[.iface 32 (.int .i64 x)] w fun e w'=>e=.returned (.tuple #[.int .i64 x,.int .i64 (-1)])/\ZY w w':=by
 have l:=Zz hg;clear hg;have hk:Hid (∀a b,ZY w ((w.alloc a).alloc b)):=Zz fun a b=>(ZV.alloc ZU _).alloc (by simp) _
 go_enter func40,ntmps40
 go_wp2_with fail
 refine (XO x ⟨w.heap.size,0,none⟩ (.pointer none) _ (l.o.Ak (hk.o _ _)) (by simp)).mono ?_;rintro e g ⟨rfl,c⟩;have c1:g.cell? ⟨w.heap.size+1,0,none⟩=some (.int .i64 0):=cell_later c (by simp);have m:g.frozen? ⟨w.heap.size+1,0,none⟩=false:=(c.frozen (p:=⟨w.heap.size+1,0,none⟩) (by simp)).trans (by simp);have j:=c.size;have f:Hid (ZY w g):=Zz ((hk.o _ _).trans (c.mono (by simp;omega)));clear c;go_wp2_with fail
 refine (Sg x ⟨w.heap.size+1,0,none⟩ (.int .i64 0) g (l.o.Ak f.o) c1 m).mono ?_;rintro e k ⟨rfl,d⟩;have c2:k.cell? ⟨w.heap.size+1,0,none⟩=some (.int .i64 x):=by rw[d];exact Ut _ _ _ _ c1
 have i:Hid (ZY w k):=Zz (by rw[d];exact f.o.trans (Se _ _ _ _ (by omega) (by simp at j;omega)));clear d c1 m;go_wp2_with fail
 refine (LL x k).mono ?_;rintro e n ⟨rfl,rfl⟩;go_wp2_with fail
 go_ret2
 exact⟨rfl,i.o⟩
