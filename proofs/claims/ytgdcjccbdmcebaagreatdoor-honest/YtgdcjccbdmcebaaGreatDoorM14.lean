import Derived.Test.YtgdcjccbdmcebaaGreatDoorM13
import Derived.Defers
import Derived.Laws.Pointers
import Derived.Laws.IdiomStrings
import Derived.StringKeys
set_option linter.all false
set_option maxHeartbeats 4000000
set_option maxRecDepth 100000
open Go.Proofs.Tryz
open Go renaming callsD_of_wpS->QIe,bodyPost_ret->QEz,leaves_cons->QIf,results->QIg,heap_alloc_new->QFm,cell_later->QFa
open Go.RowKit renaming ownsRow_setCell_below->QDu
open Go.World renaming setCell->QDw,frozen?_of_block->QDx,cell?_of_block->QEc,block_lt_of_cell?->QDv,cell?_setCell_same->QDz,frozen?_setCell->QEa
open Int renaming toNat_of_nonneg->QIh,toNat_natCast->QEl
open List renaming range->QAr,map_nil->QIi,map_cons->QEg,mem_cons->QDc,map_append->QAp,mem_append->QCn,range_succ->QHw,not_mem_nil->QCq,getD_cons_succ->QEr,map_congr_left->QIj,take_append_drop->QHc,drop_eq_getElem_cons->QHd,getElem?_append_left->QBg,getElem_mem->QAi,append_assoc->QHz,getD_cons_zero->QEs,getElem?_append_right->QBe
open Nat renaming zero_add->QDk,strongRecOn->QIk,add_zero->QBl,add_sub_cancel_left->QHf
namespace Go.Proofs.YtgdcjccbdmcebaaGreatDoor
open Go.RowKit Go.Extern.Stop Go.Stop
theorem NJ (E V:Nat)(w:World) :
  CallsD prog 260 #[.pointer (some ⟨E,0,none⟩),.pointer (some ⟨V,0,none⟩)] .returning w fun e a w'=>e=.returned (.tuple #[])/\a=.returning/\w'=w:=by
 refine QIe func260 rfl fun c₀ cs hu=> ?_
 apply wpS_seq
 apply wpS_region
 simp[wpOpsS,go_sem,recoverD,hu,ntmps260,Exit.thenS];rw[show (#[Value.pointer (some ⟨E,0,none⟩),.pointer (some ⟨V,0,none⟩)]++(Array.replicate 15 undef).setIfInBounds 3 Value.nilIface)=#[.pointer (some ⟨E,0,none⟩),.pointer (some ⟨V,0,none⟩),undef,undef,undef,.nilIface,undef,undef,undef,undef,undef,undef,undef,undef,undef,undef,undef] from rfl];refine wpS_of_wp ?_;go_wp2_with fail
 exact⟨rfl,.returning,by cases c₀;simp_all,.tuple #[],by simp[QIg,Tryz.results260],rfl,rfl,rfl⟩
theorem Mv (v:Value)(w:World):(Instr.typeAssert (.iface 412 v) 20 412 true).run prog w=.ok (.tuple #[v,.bool true]) w:=by kernel_rfl
theorem Zet (E V p:Nat)(a:List PanicEntry)(w:World)(i:w.cell? ⟨E,0,none⟩=some .nilIface)(l:w.frozen? ⟨E,0,none⟩=false) :
  CallsD prog 260 #[.pointer (some ⟨E,0,none⟩),.pointer (some ⟨V,0,none⟩)] (.panicking ({ v:=.iface 412 (.int .i64 (p:Nat)),recovered:=false }::a)) w fun e n w' =>
   e=.returned (.tuple #[])/\n=.panicking ({ v:=.iface 412 (.int .i64 (p:Nat)),recovered:=true }::a) /\
   ∃q b,w.heap.size<=q/\Bb b q 1 p/\q<b.heap.size/\ZY w b/\w'=b.setCell ⟨E,0,none⟩ (.iface 172 (.pointer (some ⟨q,0,none⟩))):=by
 refine QIe func260 rfl fun c₀ cs hu=> ?_
 apply wpS_seq
 apply wpS_region
 simp[wpOpsS,go_sem,recoverD,hu,ntmps260,Exit.thenS];rw[show (#[Value.pointer (some ⟨E,0,none⟩),.pointer (some ⟨V,0,none⟩)]++(Array.replicate 15 undef).setIfInBounds 3 (Value.iface 412 (.int .i64 (p:Nat))))=#[.pointer (some ⟨E,0,none⟩),.pointer (some ⟨V,0,none⟩),undef,undef,undef,.iface 412 (.int .i64 (p:Nat)),undef,undef,undef,undef,undef,undef,undef,undef,undef,undef,undef] from rfl];refine wpS_of_wp ?_;have k:=Mv (.int .i64 (p:Nat));go_wp2_with fail
 refine (DC _ _ _).mono ?_;rintro e b ⟨q,rfl,f,g,hf,d⟩;have j:b.cell? ⟨E,0,none⟩=some .nilIface:=QFa d i;have m:b.frozen? ⟨E,0,none⟩=false:=(d.frozen (p:=⟨E,0,none⟩) (QDv _ _ i)).trans l;go_wp2_with fail
 exact⟨rfl,_,rfl,.tuple #[],by simp[QIg,Tryz.results260],rfl,rfl,q,f,b,hf,g,d,rfl⟩
def Rd (B:Nat)(w':World)(n:Nat)(f:Nat->Nat)(e:Ending):Prop :=
 (∃q s la lc Na Nc,NA n f=.AB q s/\n<=q/\e=.returned (.tuple #[GL (Zaj n f).dl (.slice la (Zaj n f).n lc),.nilIface])/\An B w' (Zaj n f) (.slice la (Zaj n f).n lc) (Zaj n f).n Na Nc) \/
 (∃(y Au:Nat) (x:Int) (la:Option Addr) (c lc:Nat),(NA n f=.bad y\/∃s,NA n f=.AB y s/\y<n)/\e=.returned (.tuple #[GL x (.slice la c lc),.iface 172 (.pointer (some ⟨Au,0,none⟩))])/\Bb w' Au 1 y/\Au<w'.heap.size/\B<=Au)
structure Nx (w x:World)(d:Int)(v e:Value):Prop where
 bl:ZY w x
 a0:x.cell? ⟨w.heap.size,0,none⟩=some (.int .i64 d)
 a1:x.cell? ⟨w.heap.size,1,none⟩=some v
 e0:x.cell? ⟨w.heap.size+1,0,none⟩=some e
 v0:x.cell? ⟨w.heap.size+1+1+1,0,none⟩=some (.pointer (some ⟨w.heap.size+1+1,0,none⟩))
 UO:x.frozen? ⟨w.heap.size,0,none⟩=false
 Yl:x.frozen? ⟨w.heap.size,1,none⟩=false
 ZW:x.frozen? ⟨w.heap.size+1,0,none⟩=false
theorem Nx.grown {w x y:World}{d:Int}{v e:Value}(h:Nx w x d v e)(hg:x.grownBy y (some (w.heap.size+1+1))):Nx w y d v e:=by
 have f:w.heap.size+1+1+1<x.heap.size:=QDv _ _ h.v0;have k:∀b,b<w.heap.size+4->b≠w.heap.size+1+1->y.heap[b]? =x.heap[b]? :=fun b hb c=>hg.block b (by omega) (by simpa using c)
 refine⟨⟨hg.os.trans h.bl.os,hg.tape.trans h.bl.tape,hg.output.trans h.bl.output,Zv h.bl.size hg.size,fun b hb=>(k b (by omega) (by omega)).trans (h.bl.block b hb)⟩,?_,?_,?_,?_,?_,?_,?_⟩
 .exact (QEc (a:=⟨w.heap.size,0,none⟩) (k _ (by simp) (by simp<;>omega))).trans h.a0
 .exact (QEc (a:=⟨w.heap.size,1,none⟩) (k _ (by simp) (by simp<;>omega))).trans h.a1
 .exact (QEc (a:=⟨w.heap.size+1,0,none⟩) (k _ (by simp) (by simp<;>omega))).trans h.e0
 .exact (QEc (a:=⟨w.heap.size+1+1+1,0,none⟩) (k _ (by simp) (by simp<;>omega))).trans h.v0
 .exact (QDx (a:=⟨w.heap.size,0,none⟩) (k _ (by simp) (by simp<;>omega))).trans h.UO
 .exact (QDx (a:=⟨w.heap.size,1,none⟩) (k _ (by simp) (by simp<;>omega))).trans h.Yl
 .exact (QDx (a:=⟨w.heap.size+1,0,none⟩) (k _ (by simp) (by simp<;>omega))).trans h.ZW
theorem Za6 (x:World)(b a o c:Nat)(u:Value)(h:a≠b):(x.setCell ⟨b,o,none⟩ u).cell? ⟨a,c,none⟩=x.cell? ⟨a,c,none⟩:=Zw (Zl x ⟨b,o,none⟩ u a h)
theorem Nx.WG {w x:World}{d:Int}{v e:Value}(h:Nx w x d v e)(a:Int):Nx w (x.setCell ⟨w.heap.size,0,none⟩ (.int .i64 a)) a v e :=
 ⟨h.bl.setCell (by simp) _,QDz _ _ _ h.a0,(Zac x _ 0 1 _ (by decide)).trans h.a1,(Za6 x _ _ 0 0 _ (by omega)).trans h.e0,(Za6 x _ _ 0 0 _ (by omega)).trans h.v0,by rw[QEa];exact h.UO,by rw[QEa];exact h.Yl,by rw[QEa];exact h.ZW⟩
theorem Nx.Zp {w x:World}{d:Int}{v e:Value}(h:Nx w x d v e)(v':Value):Nx w (x.setCell ⟨w.heap.size,1,none⟩ v') d v' e :=
 ⟨h.bl.setCell (by simp) _,(Zac x _ 1 0 _ (by decide)).trans h.a0,QDz _ _ _ h.a1,(Za6 x _ _ 1 0 _ (by omega)).trans h.e0,(Za6 x _ _ 1 0 _ (by omega)).trans h.v0,by rw[QEa];exact h.UO,by rw[QEa];exact h.Yl,by rw[QEa];exact h.ZW⟩
theorem Nx.Iv {w x:World}{d:Int}{v e:Value}(h:Nx w x d v e)(e':Value):Nx w (x.setCell ⟨w.heap.size+1,0,none⟩ e') d v e' :=
 ⟨h.bl.setCell (by simp) _,(Za6 x _ _ 0 0 _ (by omega)).trans h.a0,(Za6 x _ _ 0 1 _ (by omega)).trans h.a1,QDz _ _ _ h.e0,(Za6 x _ _ 0 0 _ (by omega)).trans h.v0,by rw[QEa];exact h.UO,by rw[QEa];exact h.Yl,by rw[QEa];exact h.ZW⟩
theorem Nx.below {w x y:World}{d:Int}{v e:Value}(h:Nx w x d v e)(hb:ZY x y):Nx w y d v e:=h.grown (Zeq hb)
theorem Fe {w x a:World}{n q p:Nat}{f:Nat->Nat}{d:Int}{b:Option Addr}{c lc:Nat}(g:Nx w x d (.slice b c lc) .nilIface)(h:NA n f=.bad p\/∃s,NA n f=.AB p s/\p<n)(i:x.heap.size<=q)(hf:Bb a q 1 p)(e:q<a.heap.size)(hb:ZY x a) :
  Rd w.heap.size (a.setCell ⟨w.heap.size+1,0,none⟩ (.iface 172 (.pointer (some ⟨q,0,none⟩)))) n f (.returned (.tuple #[GL d (.slice b c lc),.iface 172 (.pointer (some ⟨q,0,none⟩))])) /\
  Nx w (a.setCell ⟨w.heap.size+1,0,none⟩ (.iface 172 (.pointer (some ⟨q,0,none⟩)))) d (.slice b c lc) (.iface 172 (.pointer (some ⟨q,0,none⟩))):=by
 have j:w.heap.size+1+1+1<x.heap.size:=QDv _ _ g.v0;refine⟨Zj ⟨p,q,d,b,c,lc,h,rfl,⟨(Za6 a _ _ 0 0 _ (by omega)).trans hf.1,(Za6 a _ _ 0 1 _ (by omega)).trans hf.2⟩,by simpa[QDw] using e,by omega⟩,(g.below hb).Iv _⟩
theorem Um (w:World)(o1 o2 o3 o4:Obj) :
  ((((w.alloc o1).alloc o2).alloc o3).alloc o4).heap[w.heap.size]? =some o1/\((((w.alloc o1).alloc o2).alloc o3).alloc o4).heap[w.heap.size+1]? =some o2 /\
  ((((w.alloc o1).alloc o2).alloc o3).alloc o4).heap[w.heap.size+1+1]? =some o3/\((((w.alloc o1).alloc o2).alloc o3).alloc o4).heap[w.heap.size+1+1+1]? =some o4:=by
 have s1:(w.alloc o1).heap.size=w.heap.size+1:=by simp
 have s2:((w.alloc o1).alloc o2).heap.size=w.heap.size+1+1:=by simp
 have s3:(((w.alloc o1).alloc o2).alloc o3).heap.size=w.heap.size+1+1+1:=by simp
 have n1:=QFm w o1;have n2:=QFm (w.alloc o1) o2;have c:=QFm ((w.alloc o1).alloc o2) o3;have d:=QFm (((w.alloc o1).alloc o2).alloc o3) o4;rw[s1] at n2;rw[s2] at c;rw[s3] at d;have e:Below (w.alloc o1).heap.size (w.alloc o1) ((w.alloc o1).alloc o2):=ZV.alloc ZU _;have b:Below ((w.alloc o1).alloc o2).heap.size ((w.alloc o1).alloc o2) (((w.alloc o1).alloc o2).alloc o3):=ZV.alloc ZU _;have a:Below (((w.alloc o1).alloc o2).alloc o3).heap.size (((w.alloc o1).alloc o2).alloc o3) ((((w.alloc o1).alloc o2).alloc o3).alloc o4):=ZV.alloc ZU _;refine⟨?_,?_,?_,d⟩
 .rw[a.block _ (by omega),b.block _ (by omega),e.block _ (by omega)];exact n1
 .rw[a.block _ (by omega),b.block _ (by omega)];exact n2
 .rw[a.block _ (by omega)];exact c
theorem Tz (w:World)(a:Option Addr)(n cap:Nat)(f:Nat->Nat)(hn:n<=maxLen)(ha:∀b o,a=some ⟨b,o,none⟩->b<w.heap.size)(hb:Aw w a n cap f) :
  Calls prog 194 #[.slice a n cap] w fun e w'=>Rd w.heap.size w' n f e/\ZY w w':=by
 have aj:∀(fn:Fn) (first cap:Array Value) (w:World),(Instr.makeFunc fn first cap).run prog w=.ok (.func fn first cap) w:=fun _ _ _ _=>rfl;have HB:=Zz hb;have R:Hid (∀b o,a=some ⟨b,o,none⟩->b≠w.heap.size+1+1):=Zz fun b o h=>by have:=ha b o h;omega
 clear hb ha
 have y:Hid (Nx w ((((w.alloc (.cells #[.int .i64 0,.slice none 0 0] 61)).alloc (.cells #[.nilIface] 98)).alloc (.cells #[.slice a n cap,.int .i64 0] 411)).alloc (.cells #[.pointer (some ⟨w.heap.size+1+1,0,none⟩)] 409)) 0 (.slice none 0 0) .nilIface):=Zz (by
  obtain⟨n1,n2,S,n4⟩:=Um w (.cells #[.int .i64 0,.slice none 0 0] 61) (.cells #[.nilIface] 98) (.cells #[.slice a n cap,.int .i64 0] 411) (.cells #[.pointer (some ⟨w.heap.size+1+1,0,none⟩)] 409);exact⟨Below.alloc (Below.alloc (Below.alloc (Below.alloc ZV ZU _) (by simp) _) (by simp;omega) _) (by simp;omega) _,Zae n1 0,Zae n1 1,Zae n2 0,Zae n4 0,Zbb n1 0,Zbb n1 1,Zbb n2 0⟩)
 have V:Hid (Ca ((((w.alloc (.cells #[.int .i64 0,.slice none 0 0] 61)).alloc (.cells #[.nilIface] 98)).alloc (.cells #[.slice a n cap,.int .i64 0] 411)).alloc (.cells #[.pointer (some ⟨w.heap.size+1+1,0,none⟩)] 409)) (w.heap.size+1+1) a n cap ((0:Nat):Int)):=Zz (by
  obtain⟨n1,n2,S,n4⟩:=Um w (.cells #[.int .i64 0,.slice none 0 0] 61) (.cells #[.nilIface] 98) (.cells #[.slice a n cap,.int .i64 0] 411) (.cells #[.pointer (some ⟨w.heap.size+1+1,0,none⟩)] 409);exact⟨Zae S 0,Zae S 1,Zbb S 1⟩)
 go_enter_defers func194,ntmps194
 go_wp2_with fail
 refine (Zc7 _ (w.heap.size+1+1) a n cap f 0 hn (by omega) V.o R.o (HB.o.grown R.o (Zeq y.o.bl))).mono ?_;rintro e x1 ⟨⟨m,q1,G,rfl,t⟩ | ⟨G,rfl,t⟩,u⟩
 case inr =>
  have g:=Zz (y.o.grown u.grown)
  have I:Hid (NA n f=.bad 0):=Zz (by
   have s:Bd n f 1 (.AB 0 0)=.bad 0:=by simp only[Bd];exact Zct G
   unfold NA st st0;rw[Zcu s (by omega),MR])
  clear G t u;go_wp2_with fail
  refine QIf (f:=260) (args:=#[.pointer (some ⟨w.heap.size+1,0,none⟩),.pointer (some ⟨w.heap.size+1+1+1,0,none⟩)]) (by simp) (by simp[go_sem]) ?_;refine (Zet _ _ 0 [] _ g.o.e0 g.o.ZW).mono ?_;rintro e u' H ⟨rfl,rfl,qf,wf,k,hf,l,d,rfl⟩;obtain⟨r1,r2⟩:=Fe (n:=n) (f:=f) g.o (Zu I.o) k hf l d;have z:=r2.a0;have s:=r2.a1;have A:=r2.e0;have L:=Zz (Zq r1 r2.bl);clear r1 r2 hf d;simp[Leaves,settle,QIg,Tryz.results194,go_sem,z,s,A];exact L.o
 have O:=(Zce G).2.1;have Q:Bd n f 1 (.AB 0 0)=.AB q1 0:=by simp only[Bd];exact Zcd G
 have ae:(Zaj n f).dl=m:=by show ((BJ n f (.AB 0 0):Nat):Int)=m;rw[Zcc G]
 have g:=Zz (y.o.grown u.grown);have r:=Zz (g.o.WG m);have X:=Zz (t.set (D:=w.heap.size) (o:=0) (by omega) (.int .i64 m));have a0:=g.o.a0;have UO:=g.o.UO;have v0:=r.o.v0
 have N:w.heap.size+1+1<(x1.setCell ⟨w.heap.size,0,none⟩ (.int .i64 m)).heap.size:=by
  have:w.heap.size+1+1+1<(x1.setCell ⟨w.heap.size,0,none⟩ (.int .i64 m)).heap.size:=QDv _ _ v0;omega
 have M:w.heap.size<(x1.setCell ⟨w.heap.size,0,none⟩ (.int .i64 m)).heap.size:=by omega
 clear G t u;go_wp2_with fail
 refine (QD _ (w.heap.size+1+1) (w.heap.size+1+1+1) a n cap f q1 0 Q N (by omega) r.o.v0 hn O X.o R.o (HB.o.grown R.o (Zeq r.o.bl))).mono ?_;rintro e x2 ⟨hx,E⟩;have j:=Zz (r.o.grown E);rcases hx with⟨q2,s2,x,lc,Y,Z,p,P,rfl,C,v⟩ | ⟨s2,p,rfl⟩
 case inr =>
  have I:=Zz p;clear p E a0 UO v0;go_wp2_with fail
  refine QIf (f:=260) (args:=#[.pointer (some ⟨w.heap.size+1,0,none⟩),.pointer (some ⟨w.heap.size+1+1+1,0,none⟩)]) (by simp) (by simp[go_sem]) ?_;refine (Zet _ _ s2 [] _ j.o.e0 j.o.ZW).mono ?_;rintro e u' H ⟨rfl,rfl,qf,wf,k,hf,l,d,rfl⟩;obtain⟨r1,r2⟩:=Fe (n:=n) (f:=f) j.o (Zu I.o) k hf l d;have z:=r2.a0;have s:=r2.a1;have A:=r2.e0;have L:=Zz (Zq r1 r2.bl);clear r1 r2 hf d;simp[Leaves,settle,QIg,Tryz.results194,go_sem,z,s,A];exact L.o
 have K:=Zz (j.o.Zp (.slice x (Zaj n f).n lc));have W:=Zz (v.set (D:=w.heap.size) (o:=1) (by omega) (.slice x (Zaj n f).n lc))
 have T:Hid (An (x1.setCell ⟨w.heap.size,0,none⟩ (.int .i64 m)).heap.size (x2.setCell ⟨w.heap.size,1,none⟩ (.slice x (Zaj n f).n lc)) (Zaj n f) (.slice x (Zaj n f).n lc) (Zaj n f).n Y Z):=Zz
  ⟨QDu C.own (by simpa using M) _,fun i hi=>QDu (C.DW i hi) (by simpa using M) _⟩
 have I:=Zz p;clear p C v E a0 UO v0;have a1:=j.o.a1;have Yl:=j.o.Yl;have v1:=K.o.v0;go_wp2_with fail
 refine (Wq _ (w.heap.size+1+1) a n cap q2 hn P W.o).mono ?_;rintro e x4 ⟨hx,u⟩;have c:=Zz (K.o.grown u.grown);have J:=Zz (T.o.Vb u.grown N);clear a1 Yl v1;rcases hx with⟨ag,rfl⟩ | ⟨hle,rfl⟩
 .clear u
  go_wp2_with fail
  refine QIf (f:=260) (args:=#[.pointer (some ⟨w.heap.size+1,0,none⟩),.pointer (some ⟨w.heap.size+1+1+1,0,none⟩)]) (by simp) (by simp[go_sem]) ?_;refine (Zet _ _ q2 [] _ c.o.e0 c.o.ZW).mono ?_;rintro e u' H ⟨rfl,rfl,qf,wf,k,hf,l,d,rfl⟩;obtain⟨r1,r2⟩:=Fe (n:=n) (f:=f) c.o (Zj ⟨s2,I.o,ag⟩) k hf l d;have z:=r2.a0;have s:=r2.a1;have A:=r2.e0;have L:=Zz (Zq r1 r2.bl);clear r1 r2 hf d;simp[Leaves,settle,QIg,Tryz.results194,go_sem,z,s,A];exact L.o
 .clear u
  have b0:=c.o.a0;have b1:=c.o.a1;have c0:=c.o.UO;have c1:=c.o.Yl;have g0:=c.o.e0;have g1:=c.o.ZW;have q:=Zz (((c.o.WG m).Zp (.slice x (Zaj n f).n lc)).Iv .nilIface)
  have U:Hid (An w.heap.size (((x4.setCell ⟨w.heap.size,0,none⟩ (.int .i64 m)).setCell ⟨w.heap.size,1,none⟩ (.slice x (Zaj n f).n lc)).setCell ⟨w.heap.size+1,0,none⟩ .nilIface) (Zaj n f) (.slice x (Zaj n f).n lc) (Zaj n f).n Y Z):=Zz
   (An.base (B:=(x1.setCell ⟨w.heap.size,0,none⟩ (.int .i64 m)).heap.size) ⟨QDu (QDu (QDu J.o.own (by simp only[];omega) _) (by simp only[];omega) _) (by simp only[];omega) _,
    fun i hi=>QDu (QDu (QDu (J.o.DW i hi) (by simp only[];omega) _) (by simp only[];omega) _) (by simp only[];omega) _⟩ (by omega))
  go_wp2_with fail
  refine QIf (f:=260) (args:=#[.pointer (some ⟨w.heap.size+1,0,none⟩),.pointer (some ⟨w.heap.size+1+1+1,0,none⟩)]) (by simp) (by simp[go_sem]) ?_;refine (NJ _ _ _).mono ?_;rintro e u' H ⟨rfl,rfl,rfl⟩;have z:=q.o.a0;have s:=q.o.a1;have A:=q.o.e0;simp[Leaves,settle,QIg,Tryz.results194,go_sem,z,s,A];exact⟨Zu ⟨q2,s2,x,lc,Y,Z,I.o,hle,by rw[ae],U.o⟩,q.o.bl⟩
section
open Go.RowKit
theorem Aw.below {w w':World}{a:Option Addr}{n cap:Nat}{f:Nat->Nat}(h:Aw w a n cap f)(hb:ZY w w'):Aw w' a n cap f:=by
 rcases h with e | ⟨b,o,rfl,g,i,c,d⟩
 .exact Zu e
 .exact Zj ⟨b,o,rfl,g,i,Zy c hb.size,fun k hk=>⟨(hb.cell (p:=⟨b,o+k,none⟩) c).trans (d k hk).1,(d k hk).2⟩⟩
def PdecIs (B:Nat)(w':World)(n:Nat)(f:Nat->Nat)(e:Ending):Prop :=
 (∃(y:Int) (la:Option Addr) (lc:Nat) (Na:Nat->Option Addr) (Nc:Nat->Nat),Co n f 0 y (Zaj n f)/\e=.returned (.tuple #[GL (Zaj n f).dl (.slice la (Zaj n f).n lc),.nilIface])/\An B w' (Zaj n f) (.slice la (Zaj n f).n lc) (Zaj n f).n Na Nc) \/
 (∃(x y:Int) (q:Nat),x≠0/\Co n f x y Gm/\e=.returned (.tuple #[GL 0 (.slice none 0 0),.iface 172 (.pointer (some ⟨q,0,none⟩))])/\Bb w' q x y/\q<w'.heap.size/\B<=q)
theorem Bb.set {w:World}{q D o:Nat}{x y:Int}(h:Bb w q x y)(a:q≠D)(v:Value):Bb (w.setCell ⟨D,o,none⟩ v) q x y :=
 ⟨(Za6 w D q o 0 v a).trans h.1,(Za6 w D q o 1 v a).trans h.2⟩
theorem II (w:World)(a:Option Addr)(n cap:Nat)(f:Nat->Nat)(hn:n<=maxLen)(Y:AP w)(hg:2<w.heap.size)(Z:∀b o,a=some ⟨b,o,none⟩->b<w.heap.size)(hb:Aw w a n cap f) :
  Calls prog 126 #[.slice a n cap] w fun e w'=>PdecIs w.heap.size w' n f e/\ZY w w':=by
 have HB:=Zz hb;have HT:=Zz Y;have HA:=Zz Z;have I:Hid (∀o,ZY w (w.alloc o)):=Zz fun o=>ZV.alloc ZU _;have hN:(Zaj n f).n<=2097151:=VV _ _ _;clear hb Y Z
 go_enter func126,ntmps126
 go_wp2_with fail
 refine (Tz _ a n cap f hn (fun b o h=>by have:=HA.o b o h;simp;omega) (HB.o.below (I.o _))).mono ?_;rintro e g ⟨O,k⟩;have r0:g.cell? ⟨w.heap.size,0,none⟩=some (.int .i64 0):=QFa k (by simp);have r1:g.cell? ⟨w.heap.size,1,none⟩=some (.slice none 0 0):=QFa k (by simp);have K:g.frozen? ⟨w.heap.size,0,none⟩=false:=(k.frozen (p:=⟨w.heap.size,0,none⟩) (by simp)).trans (by simp);have L:g.frozen? ⟨w.heap.size,1,none⟩=false:=(k.frozen (p:=⟨w.heap.size,1,none⟩) (by simp)).trans (by simp);have J:w.heap.size<g.heap.size:=by have:=k.size;simp at this;omega
 have z:Hid (ZY w g):=Zz ((I.o _).trans (k.mono (by simp)));clear k;rcases O with⟨q,s,C,lc,M,N,r,hle,rfl,H⟩ | ⟨y,Au,x,C,c,lc,r,rfl,D,G,Q⟩
 .have A:=Zz (Zq r (Zq hle H))
  clear r H;have l:Hid (∀o,ZY g (g.alloc o)):=Zz fun o=>ZV.alloc ZU _;go_wp2_with fail
  refine (Lu (Zaj n f) _ C lc M N _ (by unfold maxLen;omega) ((HT.o.Ak hg z.o).Ak (by omega) (l.o _)) (by simp;omega) (A.o.2.2.below (l.o _))).mono ?_;rintro e t ⟨R,d⟩;have p0:t.cell? ⟨w.heap.size,0,none⟩=some (.int .i64 0):=QFa (((l.o _).trans (d.mono (by simp)))) r0;have p1:t.cell? ⟨w.heap.size,1,none⟩=some (.slice none 0 0):=QFa (((l.o _).trans (d.mono (by simp)))) r1;have aj:t.frozen? ⟨w.heap.size,0,none⟩=false:=((((l.o _).trans (d.mono (by simp)))).frozen (p:=⟨w.heap.size,0,none⟩) J).trans K;have al:t.frozen? ⟨w.heap.size,1,none⟩=false:=((((l.o _).trans (d.mono (by simp)))).frozen (p:=⟨w.heap.size,1,none⟩) J).trans L;have d0:t.cell? ⟨g.heap.size,0,none⟩=some (.int .i64 (Zaj n f).dl):=QFa d (by simp);have d1:t.cell? ⟨g.heap.size,1,none⟩=some (.slice C (Zaj n f).n lc):=QFa d (by simp);have m:Hid (ZY g t):=Zz ((l.o _).trans (d.mono (by simp)));have ag:g.heap.size<=t.heap.size:=m.o.size;clear r0 r1 K L;rcases R with⟨rfl,j⟩ | ⟨x,y,W,rfl,O,j,T,U,D⟩
  .have P:=Zz j
   clear j d;have HC:Hid (An w.heap.size t (Zaj n f) (.slice C (Zaj n f).n lc) (Zaj n f).n M N):=Zz ((A.o.2.2.below m.o).base (by simp));have E:Hid (An (w.heap.size+1) t (Zaj n f) (.slice C (Zaj n f).n lc) (Zaj n f).n M N):=Zz ((A.o.2.2.below m.o).base (by simp));go_wp2_with fail
   refine QEz (v:=.tuple #[GL (Zaj n f).dl (.slice C (Zaj n f).n lc),.nilIface]) (by simp[QIg,Tryz.results126,go_sem,p0,p1]) rfl ⟨Zu ⟨-1,C,lc,M,N,Zj (Zj ⟨q,s,A.o.1,A.o.2.1,P.o,fun _=>rfl,fun h=>absurd rfl h⟩),rfl,?_⟩,?_⟩
   .exact An.base (B:=w.heap.size+1) ⟨QDu (QDu E.o.own (by simp) _) (by simp) _,fun i hi=>QDu (QDu (E.o.DW i hi) (by simp) _) (by simp) _⟩ (by omega)
   .exact ((z.o.trans (m.o.mono (by omega))).setCell (by simp) _).setCell (by simp) _
  .have P:=Zz j
   have ae:g.heap.size<=W:=by simp at T;omega
   clear j d;go_wp2_with fail
   refine QEz (v:=.tuple #[GL 0 (.slice none 0 0),.iface 172 (.pointer (some ⟨W,0,none⟩))]) (by simp[QIg,Tryz.results126,go_sem,p0,p1]) rfl ⟨Zj ⟨x,y,W,O,Zj (Zj ⟨q,s,A.o.1,A.o.2.1,P.o,fun h=>absurd h O,fun _=>rfl⟩),rfl,(D.set (by omega) _).set (by omega) _,by simpa[QDw] using U,by omega⟩,?_⟩;exact ((z.o.trans (m.o.mono (by omega))).setCell (by simp) _).setCell (by simp) _
 .have A:=Zz r
  clear r;have X:w.heap.size+1<=Au:=by simpa using Q
  have HS:Hid (∀u v,ZY w ((g.setCell ⟨w.heap.size,0,none⟩ u).setCell ⟨w.heap.size,1,none⟩ v)/\Bb ((g.setCell ⟨w.heap.size,0,none⟩ u).setCell ⟨w.heap.size,1,none⟩ v) Au 1 y/\((g.setCell ⟨w.heap.size,0,none⟩ u).setCell ⟨w.heap.size,1,none⟩ v).cell? ⟨w.heap.size,0,none⟩=some u/\((g.setCell ⟨w.heap.size,0,none⟩ u).setCell ⟨w.heap.size,1,none⟩ v).cell? ⟨w.heap.size,1,none⟩=some v/\Au<((g.setCell ⟨w.heap.size,0,none⟩ u).setCell ⟨w.heap.size,1,none⟩ v).heap.size):=Zz fun u v =>
   ⟨(z.o.setCell (by simp) _).setCell (by simp) _,(D.set (by omega) _).set (by omega) _,(Zac _ _ 1 0 _ (by decide)).trans (QDz _ _ _ r0),QDz _ _ _ ((Zac _ _ 0 1 _ (by decide)).trans r1),by simpa[QDw] using G⟩
  go_wp2_with fail
  obtain⟨s1,s2,s3,s4,s5⟩:=HS.o (.int .i64 0) (.slice none 0 0);have z0:=QFa ((ZV.alloc ZU (.cells #[.int .i64 x,.slice C c lc] 61))) s3;have z1:=QFa ((ZV.alloc ZU (.cells #[.int .i64 x,.slice C c lc] 61))) s4;have V:w.heap.size<=((g.setCell ⟨w.heap.size,0,none⟩ (.int .i64 0)).setCell ⟨w.heap.size,1,none⟩ (.slice none 0 0)).heap.size:=s1.size;refine QEz (v:=.tuple #[GL 0 (.slice none 0 0),.iface 172 (.pointer (some ⟨Au,0,none⟩))]) (by simp[QIg,Tryz.results126,go_sem,z0,z1]) rfl ⟨Zj ⟨1,y,Au,by decide,?_,rfl,s2.Ak s5 (ZV.alloc ZU _),by simp;omega,by omega⟩,?_⟩
  .rcases A.o with h | ⟨s,h,S⟩
   .exact Zu ⟨y,h,rfl,rfl,rfl⟩
   .exact Zj (Zu ⟨y,s,h,S,rfl,rfl,rfl⟩)
  .exact s1.alloc V _
end
section
open Go.RowKit
end
open Go.RowKit
def BC (l:List Int):Prop:=∀x∈l,0<=x/\x<256
theorem BC.append {a b:List Int}(h:BC a)(d:BC b):BC (a++b):=fun x e=>by
 rcases List.mem_append.1 e with c | c
 .exact h x c
 .exact d x c
theorem Zb7:∀n:Nat,BC (Bp n):=by
 intro n
 induction n using QIk with
 | _ n b =>
  by_cases h:n<128
  .rw[Zb2 h]
   intro x a;simp only[List.mem_singleton] at a;omega
  .rw[Zd0 h]
   intro x a;rcases List.mem_cons.1 a with rfl | a
   .omega
   .exact b (n / 128) (by omega) x a
theorem Qv (F:Ad)(i:Nat):BC (Kj F i):=by
 have a:∀(f:Nat->Nat) (k:Nat),BC (Cw f k):=by
  intro f k
  induction k with
  | zero=>intro x b;cases b
  | succ k c=>exact c.append (Zb7 _)
 exact ((((((((Zb7 _).append (Zb7 _)).append (Zb7 _)).append (Zb7 _)).append (Zb7 _)).append (Zb7 _)).append (Zb7 _)).append (a _ _))
theorem JO (F:Ad):BC (Zat F):=by
 have a:∀k,BC (CJ F k):=by
  intro k
  induction k with
  | zero=>intro x b;cases b
  | succ k c=>exact c.append (Qv F k)
 exact ((Zb7 _).append (Zb7 _)).append (a _)
theorem LD {F:Ad}(a:Cq F)(h:∀i,i<F.n->Cp F i):(Zat F).length<=4096:=by
 have b:=Kk (k:=F.n) h;have c:=Zax (n:=F.dl.toNat) (by have:=a.dl2;omega);have d:=Zax (n:=F.n) (by have:=a.n2;omega);have:=a.n2;simp only[Zat,ZX];omega
theorem Me {B:Nat}{w:World}{v:Value}{l:List Int}(h:Al B w v l)(hl:BC l) :
  ∃(a:Option Addr) (c:Nat),v=.slice a l.length c/\(a=none->l.length=0/\c=0)/\(∀b o,a=some ⟨b,o,none⟩->b<w.heap.size)/\Aw w a l.length c (fun k=>(l.getD k 0).toNat)/\(∀k,k<l.length->(l.getD k 0).toNat<256) /\
   (l.length=0\/∃g,a=some ⟨g,0,none⟩/\∀k,k<l.length->w.cell? ⟨g,k,none⟩=(bv l)[k]?):=by
 have f:∀k,k<l.length->0<=l.getD k 0/\l.getD k 0<256:=fun k hk=>by
  rw[ZQ,ZZ hk];exact hl _ (QAi _)
 have j:∀k,k<l.length->(bv l)[k]? =some (.int .u8 (((l.getD k 0).toNat:Nat):Int)):=fun k hk=>by
  have m:=f k hk;rw[QIh m.1,ZQ,ZZ hk];simp[bv,hk]
 rcases h.2 with⟨rfl,i⟩ | ⟨g,cap,cur,rfl,hg,hh,n,p,q,r⟩
 .refine⟨none,0,by rw[i],fun _=>⟨i,rfl⟩,fun b o e=>by (cases e),Zu i,fun k hk=>by omega,Zu i⟩
 .obtain⟨d,_⟩:=Array.getElem?_eq_some_iff.1 hh
  have key:∀k,k<l.length->w.cell? ⟨g,k,none⟩=(bv l)[k]? :=fun k hk=>h.cellAt k (by omega)
  refine⟨_,_,rfl,fun e=>by (cases e),fun b o e=> ?_,Zj ⟨g,0,rfl,n,p,d,fun k hk=>⟨by rw[QDk,key k hk];exact j k hk,by show (l.getD k 0).toNat<256;have:=f k hk;omega⟩⟩,fun k hk=>by have:=f k hk;omega,Zj ⟨g,rfl,key⟩⟩;obtain⟨rfl,_⟩:g=b/\0=o:=by simpa using e
  exact d
def Zbn (l:List Int):ByteArray:=l.foldl (fun r n=>r.push (UInt8.ofNat n.toNat)) ByteArray.empty
theorem FO {w:World}{g c:Nat}{l:List Int}(h:∀k,k<l.length->w.cell? ⟨g,k,none⟩=(bv l)[k]?) :
  (convert 112 9 (.slice (some ⟨g,0,none⟩) l.length c)).run prog w=.ok (.string (Zbn l)) w:=by
 rw[run_convert_bytes_string w 112 9 5 _ _ _ underlying112 underlying5 underlying9]
 have hl:=run_loadCells_list (P:=prog) w ⟨g,0,none⟩ (bv l) (fun j v b=>by
  have a:j<l.length:=by have:=(List.getElem?_eq_some_iff.1 b).1;simpa[bv] using this
  rw[show (⟨g,0,none⟩:Addr).add j=⟨g,j,none⟩ by rw[Zcg,QDk],h j a,b])
 rw[Fj] at hl;exact run_bytesToString w ⟨g,0,none⟩ l.length c l hl
theorem KC (w:World):(convert 112 9 (.slice none 0 0)).run prog w=.ok (.string ByteArray.empty) w:=by kernel_rfl
open Go.RowKit
open Go.Maps (Keyed)
def Er:Value->Option (DataW Unit×List MemPlace)
 | .pointer (some ⟨b,0,none⟩)=>some (.lit (.int .u64 b),[])
 | .pointer none=>some (.nil,[])
 | _=>none
theorem TJ {v:Value}{b:Int}{ps:List MemPlace}(h:Er v=some (.lit (.int .u64 b),ps)):∃n:Nat,b=n/\v=.pointer (some ⟨n,0,none⟩):=by
 unfold Er at h
 split at h
 .simp at h;exact⟨_,h.1.symm,rfl⟩
 .simp at h
 .cases h
theorem CI:Keyed prog 9:=Maps.string_keyed underlying9
theorem Xp (w:World):(zeroValue 144).run prog w=.ok (.pointer none) w:=by kernel_rfl
def Nz:Nat->List UInt8
 | 0=>[108,111,103]
 | 1=>[108,111,103,48]
 | _=>[108,111,103,49]
def CX (i:Nat):ByteArray:=⟨(Nz i).toArray⟩
theorem Jx {i j:Nat}(hi:i<3)(a:j<3)(h:Nz i=Nz j):i=j:=by
 have:∀i:Fin 3,∀j:Fin 3,Nz i.val=Nz j.val->i=j:=by decide
 exact congrArg Fin.val (this ⟨i,hi⟩ ⟨j,a⟩ h)
theorem GR (i:Nat):keyOf prog 9 (.string (CX i))=some (.string (Nz i)):=by
 have:=WideMaps.keyOf_string_mk (P:=prog) underlying9 (s:=CX i) (by unfold maxLen CX Nz;split<;>decide);simpa[CX] using this
def Hz (f:BI):Nat:=(if (f 0).isSome then 1 else 0)+(if (f 1).isSome then 1 else 0)+(if (f 2).isSome then 1 else 0)
theorem Rj (f:BI):Hz f<=3:=by unfold Hz;split<;>split<;>split<;>omega
def Zdg (w:World)(b:Nat)(s:List Int):Prop:=w.heap[b]? =some (.cells #[.string (Zbn s)] 9 (0,0))
structure AE (w:World)(bm:Nat)(f:BI)(D:DataW Unit):Prop where
 own:w.ownsMap prog 9 Er bm 3 D
 size:Maps.size D=Hz f
 has:∀key,Maps.has D (.string key)=true↔∃i,i<3/\key=Nz i/\(f i).isSome=true
 at_:∀i s,i<3->f i=some s->∃b:Nat,D.atKey (.string (Nz i)) .nil=.lit (.int .u64 b)/\Zdg w b s
theorem AE.Yp {w:World}{b:Nat}{f:BI}{D:DataW Unit}(h:AE w b f D){i:Nat}(hi:i<3):Maps.has D (.string (Nz i))=(f i).isSome:=by
 cases e:(f i).isSome with
 | true=>exact (h.has _).2 ⟨i,hi,rfl,e⟩
 | false =>
  cases c:Maps.has D (.string (Nz i)) with
  | false=>rfl
  | true =>
   obtain⟨j,g,d,a⟩:=(h.has _).1 c;have:=Jx hi g d;subst this;rw[e] at a;cases a
theorem AE.look {w:World}{d:Nat}{f:BI}{D:DataW Unit}(h:AE w d f D){i:Nat}(hi:i<3):∃v,(Instr.lookup 89 (.map (some d)) (.string (CX i)) true).run prog w=.ok (.tuple #[v,.bool (f i).isSome]) w/\∀s,f i=some s->∃b:Nat,v=.pointer (some ⟨b,0,none⟩)/\Zdg w b s:=by
 obtain⟨v,ps,a,e⟩:=World.ownsMap.look_ok h.own CI underlying89 (Xp w) (zd:=.nil) (zp:=[]) rfl (GR i);rw[h.Yp hi] at a;refine⟨v,a,fun s j=> ?_⟩;obtain⟨b,hb,g⟩:=h.at_ i s hi j;rw[hb] at e;obtain⟨n,hn,c⟩:=TJ e;have:b=n:=by omega
 subst this;exact⟨b,c,g⟩
theorem AE.Eu {w w':World}{a:Nat}{f:BI}{D:DataW Unit}(h:AE w a f D)(hm:w'.heap[a]? =w.heap[a]?)(g:∀k s,Zdg w k s->w'.heap[k]? =w.heap[k]?):AE w' a f D:=by
 refine⟨?_,h.size,h.has,fun i s hi e=> ?_⟩
 .obtain⟨es,clock,hb,r⟩:=h.own
  exact⟨es,clock,hm.trans hb,r⟩
 .obtain⟨b,d,c⟩:=h.at_ i s hi e
  exact⟨b,d,(g b _ c).trans c⟩
theorem AE.Ak {w w':World}{a:Nat}{f:BI}{D:DataW Unit}(h:AE w a f D)(hm:w'.heap[a]? =w.heap[a]?)(b:∀(k:Nat) (cs:Array Value) (fr:Nat×Nat),w.heap[k]? =some (Obj.cells cs 9 fr)->w'.heap[k]? =w.heap[k]?):AE w' a f D :=
 h.Eu hm (fun k _ e=>b k _ _ e)
theorem Yc {f:BI}{i:Nat}{s:List Int}(hi:i<3){g:BI}(hg:∀j,g j=if j=i then some s else f j):Hz g=if (f i).isSome then Hz f else Hz f+1:=by
 have:i=0\/i=1\/i=2:=by omega
 unfold Hz;rcases this with rfl | rfl | rfl<;>simp[hg]<;>(cases a:(f 0).isSome<;>cases b:(f 1).isSome<;>cases c:(f 2).isSome<;>simp)
theorem Yb {f:BI}{i:Nat}(hi:i<3){g:BI}(hg:∀j,g j=if j=i then none else f j):Hz g=if (f i).isSome then Hz f - 1 else Hz f:=by
 have:i=0\/i=1\/i=2:=by omega
 unfold Hz;rcases this with rfl | rfl | rfl<;>simp[hg]<;>(cases a:(f 0).isSome<;>cases b:(f 1).isSome<;>cases c:(f 2).isSome<;>simp)
theorem Yy (l:List UInt8):WideAt.IsKeyLit (.string l):=by simp[WideAt.IsKeyLit]
theorem AE.store {w:World}{y:Nat}{f:BI}{D:DataW Unit}(h:AE w y f D){i:Nat}(hi:i<3){nb:Nat}{s:List Int}(A:Zdg w nb s){g:BI}(hg:∀j,g j=if j=i then some s else f j) :
  ∃w' B,(Instr.mapUpdate 89 (.map (some y)) (.string (CX i)) (.pointer (some ⟨nb,0,none⟩))).run prog w=.ok () w'/\AE w' y g B/\w.grownBy w' (some y):=by
 obtain⟨w',z,u,q⟩:=World.ownsMap.update h.own CI underlying89 (by unfold maxLen;omega) (GR i) (val:=.pointer (some ⟨nb,0,none⟩)) (d:=.lit (.int .u64 nb)) (ps:=[]) rfl;have l:=h.own.tidy CI;have hk:=Yy (Nz i);have a:=l.isMap
 have r:∀(k:Nat) (cs:Array Value) (fr:Nat×Nat),w.heap[k]? =some (Obj.cells cs 9 fr)->w'.heap[k]? =w.heap[k]? :=fun k cs fr e=>q.block k (Zaa e) (fun o=>by
  obtain⟨es,clock,hb,_⟩:=h.own;simp only[Option.some.injEq] at o;subst o;rw[hb] at e;cases e)
 have v:Maps.size (D.put (.string (Nz i)) (.lit (.int .u64 nb)))=Hz g:=by
  rw[Maps.size_put l,h.Yp hi,h.size,Yc hi hg]
 refine⟨w',_,z,⟨?_,v,fun key=> ?_,fun j t p e=> ?_⟩,q⟩
 .have:=Zcr u
  rw[v] at this;exact this.mono (Rj g)
 .by_cases e:key=Nz i
  .subst e
   rw[Maps.has_put_same a hk];simp only[true_iff];exact⟨i,hi,rfl,by rw[hg,if_pos rfl];rfl⟩
  .rw[Maps.has_put_other (fun o=>e (by injection o)),h.has]
   constructor
   .rintro⟨j,p,m,n⟩
    exact⟨j,p,m,by rw[hg,if_neg (fun x=>e (by rw[m,x]))];exact n⟩
   .rintro⟨j,p,m,n⟩
    rw[hg,if_neg (fun x=>e (by rw[m,x]))] at n;exact⟨j,p,m,n⟩
 .rw[hg] at e
  by_cases c:j=i
  .subst c
   rw[if_pos rfl] at e;simp only[Option.some.injEq] at e;subst e;exact⟨nb,Maps.atKey_put_same a hk _ _,(r nb _ _ A).trans A⟩
  .rw[if_neg c] at e
   obtain⟨b,m,n⟩:=h.at_ j t p e;exact⟨b,by rw[Maps.atKey_put_other (fun o=>c (Jx p hi (by injection o)))];exact m,(r b _ _ n).trans n⟩
theorem SC (w:World):AE (w.alloc (.map #[] 0)) w.heap.size Df (.map []) :=
 ⟨(World.ownsMap_made w _ _ _).mono (by omega),rfl,fun key=>by simp[Maps.has,Df],fun i s _ e=>by cases e⟩
inductive Ez:Ab->List Int->Ab->Prop
 | AM {e e':Ab} {l:List Int} {y:Int}:Co l.length (fun k=>(l.getD k 0).toNat) 0 y (Zaj l.length (fun k=>(l.getD k 0).toNat))->BC l->e.AM (Zaj l.length (fun k=>(l.getD k 0).toNat))=some e'->Ez e (AU 1 l 0) e'
 | Bl {e e':Ab} {p:Ba} {t k:Int}:e.Bl=some (p,t,k,e')->Ez e (AU 2 [] 0) e'
 | AY {e e':Ab} {n:Nat}:n<18446744073709551616->e.AY n=some e'->Ez e (AU 3 [] n) e'
 | complete {e e':Ab} {n:Nat}:n<18446744073709551616->e.complete n=some e'->Ez e (AU 4 [] n) e'
 | fail {e e':Ab} {n:Nat}:n<18446744073709551616->e.fail n=some e'->Ez e (AU 5 [] n) e'
 | cancel {e e':Ab} {n:Nat}:n<18446744073709551616->e.cancel n=some e'->Ez e (AU 6 [] n) e'
 | tick {e e':Ab} {n:Nat}:n<18446744073709551616->BR e n e'->Ez e (AU 7 [] n) e'
 | Ar {e:Ab} {n:Nat}:n<18446744073709551616->Ez e (AU 8 [] n) { e with Ar:=n }
inductive Da:Ab->List (List Int)->Ab->Prop
 | nil (e:Ab):Da e [] e
 | cons {e e1 e2:Ab} {l:List Int} {r:List (List Int)}:Ez e l e1->Da e1 r e2->Da e (l::r) e2
theorem Da.snoc {e a b:Ab}{r:List (List Int)}{l:List Int}(h:Da e r a)(g:Ez a l b):Da e (r++[l]) b:=by
 induction h with
 | nil e=>exact .cons g (.nil _)
 | cons c _ d=>exact .cons c (d g)
def DD (recs:List (List Int)):BI:=fun i=>if i=0 then (if recs=[] then none else some (recs.flatMap Zar)) else none
theorem NY:DD []=Df:=by funext i;unfold DD Df;simp
theorem Ly (a:List (List Int))(l:List Int):EB (DD a) ⟨2,0,Zcx 0 l⟩=DD (a++[l]):=by
 funext i
 unfold EB DD;by_cases h:i=0
 .subst h
  by_cases b:a=[]
  .subst b;simp[Zcx]
  .simp[Zcx,b]
 .simp[h]
open Go.RowKit
def BS (l:List Int)(k:Nat):Nat:=(l.getD k 0).toNat
def Cb:List Nat->List Int
 | []=>[]
 | v::r=>Bp v++Cb r
theorem Zdu (a b:List Nat):Cb (a++b)=Cb a++Cb b:=by
 induction a with
 | nil=>rfl
 | cons v r c=>simp only[List.cons_append,Cb,c,QHz]
theorem Hy (pre l post:List Int)(k:Nat)(hk:k<l.length):BS (pre++(l++post)) (pre.length+k)=(l.getD k 0).toNat:=by
 unfold BS;rw[ZQ,ZQ,QBe (by omega),QBg (by omega)]
 congr 2
 congr 1
 omega
theorem Kn (pre post:List Int)(v:Nat)(h:v<=2097151):Zci (pre++(Bp v++post)).length (BS (pre++(Bp v++post))) pre.length=some (v,pre.length+(Bp v).length):=by
 by_cases c:v<128
 .have e:Bp v=[(v:Int)]:=Zb2 c
  have a:=Hy pre (Bp v) post 0 (by rw[e];simp);rw[e] at a ⊢;simp only[QEs,QEl,QBl] at a;unfold Zci;rw[a,if_neg (by simp),if_pos c];simp
 by_cases g:v<16384
 .have e:Bp v=[((v % 128+128:Nat):Int),((v / 128:Nat):Int)]:=by rw[Zd0 c,Zb2 (by omega)]
  have a:=Hy pre (Bp v) post 0 (by rw[e];simp);have b:=Hy pre (Bp v) post 1 (by rw[e];simp);rw[e] at a b ⊢;simp only[QEs,QEr,QEl,QBl] at a b;unfold Zci;rw[a,b,if_neg (by simp),if_neg (by omega),if_neg (by simp),if_pos (by omega),if_neg (by omega)];have f:(v % 128+128) % 128+v / 128 * 128=v:=by omega
  rw[f]
  rfl
 .have e:Bp v=[((v % 128+128:Nat):Int),((v / 128 % 128+128:Nat):Int),((v / 128 / 128:Nat):Int)]:=by rw[Zd0 c,Zd0 (by omega),Zb2 (by omega)]
  have a:=Hy pre (Bp v) post 0 (by rw[e];simp);have b:=Hy pre (Bp v) post 1 (by rw[e];simp);have d:=Hy pre (Bp v) post 2 (by rw[e];simp);rw[e] at a b d ⊢;simp only[QEs,QEr,QEl,QBl] at a b d;unfold Zci;rw[a,b,d,if_neg (by simp),if_neg (by omega),if_neg (by simp),if_neg (by omega),if_neg (by simp),if_pos (by omega),if_neg (by omega)];have f:(v % 128+128) % 128+(v / 128 % 128+128) % 128 * 128+v / 128 / 128 * 16384=v:=by omega
  rw[f]
  rfl
theorem RC (a:List Nat)(d:∀v∈a,v<=2097151):∀k,k<=a.length->∃s,Bd (Cb a).length (BS (Cb a)) k (.AB 0 0)=.AB (Cb (a.take k)).length s:=by
 intro k
 induction k with
 | zero=>intro _;exact⟨0,rfl⟩
 | succ k f =>
  intro hk;obtain⟨s,c⟩:=f (by omega);have b:k<a.length:=by omega
  have e:Cb a=Cb (a.take k)++(Bp a[k]++Cb (a.drop (k+1))):=by
   conv=>lhs;rw[<-QHc k a,QHd b]
   rw[Zdu]
   rfl
  have hn:=Kn (Cb (a.take k)) (Cb (a.drop (k+1))) a[k] (d _ (QAi _));rw[<-e] at hn;refine⟨(Cb (a.take k)).length,?_⟩;simp only[Bd];rw[c,Zcd hn,List.take_succ_eq_append_getElem b,Zdu,ZX];simp[Cb]
theorem YN (a:List Nat)(b:∀v∈a,v<=2097151)(k:Nat)(hk:k<a.length):BJ (Cb a).length (BS (Cb a)) (Bd (Cb a).length (BS (Cb a)) k (.AB 0 0))=a[k]:=by
 obtain⟨s,c⟩:=RC a b k (by omega)
 have e:Cb a=Cb (a.take k)++(Bp a[k]++Cb (a.drop (k+1))):=by
  conv=>lhs;rw[<-QHc k a,QHd hk]
  rw[Zdu]
  rfl
 have hn:=Kn (Cb (a.take k)) (Cb (a.drop (k+1))) a[k] (b _ (QAi _));rw[<-e] at hn;rw[c,Zcc hn]
def EW (F:Ad)(i:Nat):List Nat :=
 [(F.bu i).toNat,(F.cl i).toNat,(F.be i).toNat,(F.ba i).toNat,(F.ca i).toNat,(F.ji i).toNat,F.an i]++(QAr (F.an i)).map fun k=>(F.af i k).toNat
def Zdh (F:Ad):Nat->List Nat
 | 0=>[]
 | k+1=>Zdh F k++EW F k
def De (F:Ad):List Nat:=[F.dl.toNat,F.n]++Zdh F F.n
theorem Tk (f:Nat->Nat)(n:Nat):Cw f n=Cb ((QAr n).map f):=by
 induction n with
 | zero=>rfl
 | succ n a=>simp only[Cw,QHw,QAp,QEg,QIi,Zdu,a,Cb,List.append_nil]
theorem Ti (F:Ad)(i:Nat):Kj F i=Cb (EW F i):=by
 unfold Kj EW;rw[Tk];simp[Cb]
theorem Qw (F:Ad)(k:Nat):CJ F k=Cb (Zdh F k):=by
 induction k with
 | zero=>rfl
 | succ k a=>simp only[CJ,Zdh,Zdu,a,Ti]
theorem Ig (F:Ad):Zat F=Cb (De F):=by
 unfold Zat De;rw[Qw];simp[Cb]
open Go.RowKit
theorem An.YI {B:Nat}{w:World}{F:Ad}{b:Option Addr}{lc:Nat}{c:Nat->Option Addr}{d:Nat->Nat}(h:An B w F (.slice b F.n lc) F.n c d):Gy w b lc F c d:=by
 by_cases e:F.n=0
 .exact Zu e
 .rcases h.own.2 with⟨_,a⟩ | ⟨g,cap,cur,a,l,hh,f,i,m,o⟩
  .exact absurd a e
  .obtain⟨j,_,k⟩:b=some ⟨g,0,none⟩/\F.n=F.n/\lc=cap:=by simpa using a
   subst j k;exact Zj ⟨g,0,rfl,f,i,h.lt.2,h.node⟩
theorem An.flowIn {B:Nat}{w:World}{F:Ad}{c:Option Addr}{lc:Nat}{a:Nat->Option Addr}{b:Nat->Nat}(h:An B w F (.slice c F.n lc) F.n a b)(hn:F.n<=2097151)(f:∀i,i<F.n->F.an i<=2097151)(d:AP w)(hg:2<w.heap.size):FR w F c lc a b:=by
 refine⟨h.YI,by unfold maxLen;omega,by omega,fun i hi e=> ?_,fun i hi=>by have:=f i hi;omega,d,hg⟩;have:=h.DW i hi;rw[e] at this;exact YU this
def gg (u0 u1 u2 u3 u4 u5:Int)(v:Value)(j:Nat):Value :=
 if j=0 then .int .i64 u0 else if j=1 then .int .i64 u1 else if j=2 then .int .i64 u2 else if j=3 then .int .i64 u3 else if j=4 then .int .i64 u4 else if j=5 then .int .i64 u5 else v
theorem IJ {x y:World}{o:Obj}{r:Option Nat}(hg:(x.alloc o).grownBy y r){b:Nat}(hb:b<x.heap.size)(a:some b≠r):y.heap[b]? =x.heap[b]? :=
 (hg.block b (by simp;omega) a).trans (Zam x o b hb)
theorem Qd (k:Nat)(a:Nat->Int)(d:Int):Zbx (k+1) (fun j=>if j=k then d else a j)=Zbx k a++[.int .i64 d]:=by
 simp only[Zbx,QHw,QAp,QEg,QIi,if_true]
 congr 1
 apply QIj
 intro j b;have:=List.mem_range.1 b;rw[if_neg (by omega)]
theorem Oq {k:Nat}{f g:Nat->Int}(h:∀j,j<k->f j=g j):Zbx k f=Zbx k g:=by
 unfold Zbx
 apply QIj
 intro j a;rw[h j (List.mem_range.1 a)]
def Lh (n:Nat)(f:Nat->Int)(i:Nat):Int:=if i<n then f i else 0
theorem Rz {w:World}{a:Option Addr}{n cap:Nat}{f:Nat->Int}(h:Di w a n cap f)(i:Nat): -9223372036854775808<=Lh n f i/\Lh n f i<=9223372036854775807:=by
 unfold Lh
 split
 .exact⟨h.lo i ‹_›,h.hi i ‹_›⟩
 .omega
theorem Oy (w:World)(a:Option Addr)(n cap:Nat)(f:Nat->Int)(i:Nat)(hi:i<=1024)(h:Di w a n cap f) :
  Calls prog 57 #[.slice a n cap,.int .i64 i] w fun e w'=>e=.returned (.int .i64 (Lh n f i))/\w'=w:=by
 by_cases d:i<n
 .have hl:=h.len
  unfold maxLen at hl;rcases h.at' with k | ⟨b,o,rfl,l,j,m,g⟩
  .omega
  have y:=g i d;unfold maxLen at j;have c:Hid (Lh n f i=f i):=Zz (by unfold Lh;rw[if_pos d]);clear h g
  go_enter func57,ntmps57
  go_wp2_with fail
  go_ret
  exact⟨ri c.o.symm,rfl⟩
 .have c:Hid (Lh n f i=0):=Zz (by unfold Lh;rw[if_neg d])
  clear h
  go_enter func57,ntmps57
  go_wp2_with fail
  go_ret
  exact⟨ri c.o.symm,rfl⟩
def Ad.upd (F:Ad)(i:Nat)(bu cl be ba ca ji:Int)(an:Nat)(af:Nat->Int):Ad where
 dl:=F.dl
 n:=F.n
 bu j:=if j=i then bu else F.bu j
 cl j:=if j=i then cl else F.cl j
 be j:=if j=i then be else F.be j
 ba j:=if j=i then ba else F.ba j
 ca j:=if j=i then ca else F.ca j
 ji j:=if j=i then ji else F.ji j
 an j:=if j=i then an else F.an j
 af j:=if j=i then af else F.af j
structure Ci (F G:Ad)(k:Nat):Prop where
 bu:∀i,i<k->F.bu i=G.bu i
 cl:∀i,i<k->F.cl i=G.cl i
 be:∀i,i<k->F.be i=G.be i
 ba:∀i,i<k->F.ba i=G.ba i
 ca:∀i,i<k->F.ca i=G.ca i
 ji:∀i,i<k->F.ji i=G.ji i
 an:∀i,i<k->F.an i=G.an i
 af:∀i,i<k->∀j,j<F.an i->F.af i j=G.af i j
theorem Ad.Xi (F:Ad)(i:Nat)(bu cl be ba ca ji:Int)(an:Nat)(af:Nat->Int):Ci F (F.upd i bu cl be ba ca ji an af) i:=by
 constructor<;>intro j a
 all_goals simp[Ad.upd,show j≠i by omega]
theorem IT {F G:Ad}{k:Nat}(h:Ci F G k)(a:Nat->Option Addr)(b:Nat->Nat):∀j,j<=k->Zbw F a b j=Zbw G a b j:=by
 intro j
 induction j with
 | zero=>intro _;rfl
 | succ j c =>
  intro d;simp only[Zbw,Zd8];rw[c (by omega),h.bu j (by omega),h.cl j (by omega),h.be j (by omega),h.ba j (by omega),h.ca j (by omega),h.ji j (by omega),h.an j (by omega)]
theorem An.same {B:Nat}{w:World}{F G:Ad}{v:Value}{k:Nat}{a:Nat->Option Addr}{b:Nat->Nat}(h:An B w F v k a b)(c:Ci F G k):An B w G v k a b:=by
 refine⟨by rw[<-IT c a b k ZU];exact h.own,fun i hi=> ?_⟩;have d:=h.DW i hi;rw[Oq (c.af i hi),c.an i hi] at d;exact d
structure NC (F:Ad)(i:Nat):Prop where
 bu:1<=F.bu i/\F.bu i<=5
 cl:1<=F.cl i/\F.cl i<=30
 be:0<=F.be i/\F.be i<=20
 ba:1<=F.ba i/\F.ba i<=6
 ca:F.ba i<=F.ca i/\F.ca i<=30
 ji:0<=F.ji i/\F.ji i<=3
 af:∀k,k<F.an i->0<=F.af i k/\F.af i k<i/\(0<k->F.af i (k - 1)<F.af i k)
structure Gx (F:Ad)(k:Nat):Prop where
 dl:1<=F.dl/\F.dl<=2000
 nodes:∀i,i<k->NC F i
theorem NC.same {F G:Ad}{k i:Nat}(h:NC F i)(a:Ci F G k)(hi:i<k):NC G i:=by
 obtain⟨c,d,e,f,g,j,l⟩:=h;refine⟨by rw[<-a.bu i hi];exact c,by rw[<-a.cl i hi];exact d,by rw[<-a.be i hi];exact e,by rw[<-a.ba i hi];exact f,by rw[<-a.ba i hi,<-a.ca i hi];exact g,by rw[<-a.ji i hi];exact j,fun k hk=> ?_⟩;rw[<-a.an i hi] at hk;have:=l k hk;rw[<-a.af i hi k hk];refine⟨this.1,this.2.1,fun b=> ?_⟩;rw[<-a.af i hi (k - 1) (by omega)];exact this.2.2 b
theorem Gx.ok {F:Ad}(h:Gx F F.n)(c:1<=F.n)(d:F.n<=12):Cq F/\(∀j,j<F.n->Be F j/\AN F j)/\∀i,i<F.n->CY F i:=by
 have a:∀i,i<F.n->CY F i:=by
  intro i
  induction i using QIk with
  | _ i e =>
   intro hi;refine CY.mk i fun k hk=> ?_;have:=(h.nodes i hi).af k hk;exact e _ (by omega) (by omega)
 refine⟨⟨h.dl.1,by have:=h.dl.2;omega,c,d⟩,fun j b=>⟨?_,fun k hk=> ?_⟩,a⟩
 .obtain⟨n1,n2,f,g,l,n6,n7⟩:=h.nodes j b
  constructor<;>omega
 .have:=(h.nodes j b).af k hk
  exact⟨this.1,by omega,this.2.2⟩
open Go.RowKit
theorem Ej (F:Ad)(i:Nat):(EW F i).length=7+F.an i:=by simp[EW];omega
theorem Kl (F:Ad)(i n:Nat)(h:i<=n):∃r,Zdh F n=Zdh F i++r:=by
 induction n with
 | zero=>obtain rfl:i=0:=by omega
         exact⟨[],by simp⟩
 | succ n b =>
  by_cases e:i=n+1
  .subst e;exact⟨[],by simp⟩
  .obtain⟨r,a⟩:=b (by omega)
   exact⟨r++EW F n,by simp only[Zdh,a,QHz]⟩
def Le (F:Ad)(i:Nat):Nat:=2+(Zdh F i).length
theorem SV (F:Ad)(i:Nat):Le F (i+1)=Le F i+(7+F.an i):=by
 unfold Le;simp only[Zdh,ZX,Ej];omega
theorem Ob (F:Ad)(i j:Nat)(hi:i<F.n)(a:j<7+F.an i):(De F)[Le F i+j]? =(EW F i)[j]? :=by
 obtain⟨r,b⟩:=Kl F (i+1) F.n hi;unfold De Le;rw[b,show 2+(Zdh F i).length+j=([F.dl.toNat,F.n]:List Nat).length+((Zdh F i).length+j) by simp;omega,QBe (by omega),QHf];simp only[Zdh,QHz];rw[QBe (by omega),QHf,QBg (by rw[Ej];exact a)]
theorem Oc {F:Ad}(b:Cq F)(h:∀i,i<F.n->Cp F i):∀v∈De F,v<=2097151:=by
 have c:∀k,k<=F.n->∀v∈Zdh F k,v<=2097151:=by
  intro k
  induction k with
  | zero=>intro _ v a;cases a
  | succ k e =>
   intro hk v a;simp only[Zdh] at a;rcases List.mem_append.1 a with a | a
   .exact e (by omega) v a
   .have hn:=h k (by omega)
    obtain⟨x1,x2,x3,g,l,m,o,f⟩:=hn;simp only[EW,QCn,QDc,QCq,or_false,List.mem_map,List.mem_range] at a;rcases a with (rfl | rfl | rfl | rfl | rfl | rfl | rfl) | ⟨j,d,rfl⟩
    all_goals first | omega | (have:=f j d;omega)
 intro v a;simp only[De,QCn,QDc,QCq,or_false] at a;have t1:=b.dl2;have t2:=b.n2;rcases a with (rfl | rfl) | a
 .omega
 .omega
 .exact c F.n ZU v a
section
variable {F:Ad}
theorem Nw (b:Cq F)(h:∀i,i<F.n->Cp F i)(k v:Nat)(hk:(De F)[k]? =some v):BJ (Zat F).length (BS (Zat F)) (Bd (Zat F).length (BS (Zat F)) k (.AB 0 0))=v:=by
 rw[Ig];obtain⟨a,e⟩:=List.getElem?_eq_some_iff.1 hk;rw[YN (De F) (Oc b h) k a,e]
theorem st_at (d:Cq F)(h:∀i,i<F.n->Cp F i):∀i,i<=F.n->st (Zat F).length (BS (Zat F)) i=Bd (Zat F).length (BS (Zat F)) (Le F i) (.AB 0 0):=by
 intro i
 induction i with
 | zero=>intro _;rfl
 | succ i e =>
  intro hi;have b:=e (by omega);have c:st (Zat F).length (BS (Zat F)) (i+1)=VQ (Zat F).length (BS (Zat F)) (st (Zat F).length (BS (Zat F)) i):=rfl;rw[c,b];have a:=Nw d h (Le F i+6) (F.an i) (by rw[Ob F i 6 (by omega) (by omega)];rfl);rw[Ek] at a;unfold VQ;rw[a,<-Ek,SV]
theorem nd_at (a:Cq F)(h:∀i,i<F.n->Cp F i)(i j v:Nat)(hi:i<F.n)(b:j<7+F.an i)(c:(EW F i)[j]? =some v):BJ (Zat F).length (BS (Zat F)) (Bd (Zat F).length (BS (Zat F)) j (st (Zat F).length (BS (Zat F)) i))=v:=by
 rw[st_at a h i (by omega),<-Ek];exact Nw a h _ v (by rw[Ob F i j hi b];exact c)
theorem back (a:Cq F)(h:∀i,i<F.n->Cp F i) :
  (∃s,NA (Zat F).length (BS (Zat F))=.AB (Zat F).length s)/\(Zaj (Zat F).length (BS (Zat F))).dl=F.dl/\(Zaj (Zat F).length (BS (Zat F))).n=F.n/\Ci F (Zaj (Zat F).length (BS (Zat F))) F.n:=by
 have hn:(Zaj (Zat F).length (BS (Zat F))).n=F.n:=Nw a h 1 F.n rfl
 have d:(Zaj (Zat F).length (BS (Zat F))).dl=F.dl:=by
  show ((BJ (Zat F).length (BS (Zat F)) (Bd (Zat F).length (BS (Zat F)) 0 (.AB 0 0)):Nat):Int)=_;rw[Nw a h 0 F.dl.toNat rfl,QIh (by have:=a.Yg;omega)]
 refine⟨?_,d,hn,?_⟩
 .unfold NA
  rw[hn,st_at a h F.n ZU];have hl:Le F F.n=(De F).length:=by simp[Le,De];omega
  obtain⟨s,c⟩:=RC (De F) (Oc a h) (Le F F.n) (by omega);rw[hl,List.take_length] at c;rw[hl,Ig];exact⟨s,c⟩
 .have key:∀(i j:Nat) (x:Int),i<F.n->j<7+F.an i->x=(x.toNat:Int)->(EW F i)[j]? =some x.toNat->x=((BJ (Zat F).length (BS (Zat F)) (Bd (Zat F).length (BS (Zat F)) j (st (Zat F).length (BS (Zat F)) i)):Nat):Int):=fun i j x hi b f e=>by
   rw[nd_at a h i j x.toNat hi b e];exact f
  constructor
  .intro i hi;exact key i 0 (F.bu i) hi (by omega) (h i hi).bu.1 rfl
  .intro i hi;exact key i 1 (F.cl i) hi (by omega) (h i hi).cl.1 rfl
  .intro i hi;exact key i 2 (F.be i) hi (by omega) (h i hi).be.1 rfl
  .intro i hi;exact key i 3 (F.ba i) hi (by omega) (h i hi).ba.1 rfl
  .intro i hi;exact key i 4 (F.ca i) hi (by omega) (h i hi).ca.1 rfl
  .intro i hi;exact key i 5 (F.ji i) hi (by omega) (h i hi).ji.1 rfl
  .intro i hi;exact (nd_at a h i 6 (F.an i) hi (by omega) rfl).symm
  .intro i hi j b
   refine key i (7+j) (F.af i j) hi (by omega) ((h i hi).af j b).1 ?_;unfold EW;rw[QBe (by simp)];simp[b]
end
