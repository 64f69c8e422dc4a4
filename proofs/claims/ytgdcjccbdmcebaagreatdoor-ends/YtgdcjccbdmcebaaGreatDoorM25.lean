import Derived.Test.YtgdcjccbdmcebaaGreatDoorM04
import Derived.Test.YtgdcjccbdmcebaaGreatDoorM18
import Derived.Test.YtgdcjccbdmcebaaGreatDoorM24
import Derived.Defers
import Derived.Laws.Pointers
import Derived.Laws.IdiomStrings
import Derived.StringKeys
set_option linter.unusedSimpArgs false
set_option linter.unusedVariables false
set_option maxHeartbeats 4000000
set_option maxRecDepth 100000
open Go.Proofs.Tryz
namespace Go.Proofs.YtgdcjccbdmcebaaGreatDoor
open Go.RowKit Go.Extern.Stop Go.Stop
theorem NQ (E V:Nat)(w:World) :
  CallsD prog 260 #[.pointer (some ⟨E,0,none⟩), .pointer (some ⟨V,0,none⟩)] .returning w fun e a w'=>e= .returned (.tuple #[])/\a= .returning/\w'=w:=by
 refine callsD_of_wpS func260 rfl fun c₀ cs hu=> ?_
 apply wpS_seq
 apply wpS_region
 simp[wpOpsS,go_sem,recoverD,hu,ntmps260,Exit.thenS];rw[show (#[Value.pointer (some ⟨E,0,none⟩), .pointer (some ⟨V,0,none⟩)]++(Array.replicate 15 undef).setIfInBounds 3 Value.nilIface)=#[.pointer (some ⟨E,0,none⟩), .pointer (some ⟨V,0,none⟩),undef,undef,undef, .nilIface,undef,undef,undef,undef,undef,undef,undef,undef,undef,undef,undef] from rfl];refine wpS_of_wp ?_;go_wp2_with fail
 exact⟨rfl, .returning,by cases c₀;simp_all, .tuple #[],by simp[results,Tryz.results260],rfl,rfl,rfl⟩
theorem Mt (v:Value)(w:World):(Instr.typeAssert (.iface 412 v) 20 412 true).run prog w= .ok (.tuple #[v, .bool true]) w:=by kernel_rfl
theorem Zev (E V p:Nat)(a:List PanicEntry)(w:World)(h:w.cell? ⟨E,0,none⟩=some .nilIface)(k:w.frozen? ⟨E,0,none⟩=false) :
  CallsD prog 260 #[.pointer (some ⟨E,0,none⟩), .pointer (some ⟨V,0,none⟩)] (.panicking ({ v:= .iface 412 (.int .i64 (p:Nat)),recovered:=false }::a)) w fun e m w' =>
   e= .returned (.tuple #[])/\m= .panicking ({ v:= .iface 412 (.int .i64 (p:Nat)),recovered:=true }::a) /\
   ∃q b,w.heap.size<=q/\Ba b q 1 p/\q<b.heap.size/\Below w.heap.size w b/\w'=b.setCell ⟨E,0,none⟩ (.iface 172 (.pointer (some ⟨q,0,none⟩))):=by
 refine callsD_of_wpS func260 rfl fun c₀ cs hu=> ?_
 apply wpS_seq
 apply wpS_region
 simp[wpOpsS,go_sem,recoverD,hu,ntmps260,Exit.thenS];rw[show (#[Value.pointer (some ⟨E,0,none⟩), .pointer (some ⟨V,0,none⟩)]++(Array.replicate 15 undef).setIfInBounds 3 (Value.iface 412 (.int .i64 (p:Nat))))=#[.pointer (some ⟨E,0,none⟩), .pointer (some ⟨V,0,none⟩),undef,undef,undef, .iface 412 (.int .i64 (p:Nat)),undef,undef,undef,undef,undef,undef,undef,undef,undef,undef,undef] from rfl];refine wpS_of_wp ?_;have j:=Mt (.int .i64 (p:Nat));go_wp2_with fail
 refine (DG _ _ _).mono ?_;rintro e b ⟨q,rfl,f,g,hf,d⟩;have i:b.cell? ⟨E,0,none⟩=some .nilIface:=cell_later d h;have l:b.frozen? ⟨E,0,none⟩=false:=(d.frozen (p:=⟨E,0,none⟩) (World.block_lt_of_cell? _ _ h)).trans k;go_wp2_with fail
 exact⟨rfl,_,rfl, .tuple #[],by simp[results,Tryz.results260],rfl,rfl,q,f,b,hf,g,d,rfl⟩
def Rn (B:Nat)(w':World)(n:Nat)(f:Nat->Nat)(e:Ending):Prop :=
 (∃q s la lc Na Nc,NH n f= .AA q s/\n<=q/\e= .returned (.tuple #[Ex (Zah n f).dl (.slice la (Zah n f).n lc), .nilIface])/\An B w' (Zah n f) (.slice la (Zah n f).n lc) (Zah n f).n Na Nc) \/
 (∃(y Au:Nat) (x:Int) (la:Option Addr) (c lc:Nat),(NH n f= .bad y\/∃s,NH n f= .AA y s/\y<n)/\e= .returned (.tuple #[Ex x (.slice la c lc), .iface 172 (.pointer (some ⟨Au,0,none⟩))])/\Ba w' Au 1 y/\Au<w'.heap.size/\B<=Au)
structure NB (w x:World)(d:Int)(v e:Value):Prop where
 bl:Below w.heap.size w x
 a0:x.cell? ⟨w.heap.size,0,none⟩=some (.int .i64 d)
 a1:x.cell? ⟨w.heap.size,1,none⟩=some v
 e0:x.cell? ⟨w.heap.size+1,0,none⟩=some e
 v0:x.cell? ⟨w.heap.size+1+1+1,0,none⟩=some (.pointer (some ⟨w.heap.size+1+1,0,none⟩))
 UY:x.frozen? ⟨w.heap.size,0,none⟩=false
 Yz:x.frozen? ⟨w.heap.size,1,none⟩=false
 fe0:x.frozen? ⟨w.heap.size+1,0,none⟩=false
theorem NB.grown {w x y:World}{d:Int}{v e:Value}(h:NB w x d v e)(hg:x.grownBy y (some (w.heap.size+1+1))):NB w y d v e:=by
 have g:w.heap.size+1+1+1<x.heap.size:=World.block_lt_of_cell? _ _ h.v0;have k:∀b,b<w.heap.size+4->b≠w.heap.size+1+1->y.heap[b]? =x.heap[b]? :=fun b f c=>hg.block b (by omega) (by simpa using c)
 refine⟨⟨hg.os.trans h.bl.os,hg.tape.trans h.bl.tape,hg.output.trans h.bl.output,Zv h.bl.size hg.size,fun b f=>(k b (by omega) (by omega)).trans (h.bl.block b f)⟩,?_,?_,?_,?_,?_,?_,?_⟩
 ·exact (World.cell?_of_block (a:=⟨w.heap.size,0,none⟩) (k _ (by simp) (by simp<;>omega))).trans h.a0
 ·exact (World.cell?_of_block (a:=⟨w.heap.size,1,none⟩) (k _ (by simp) (by simp<;>omega))).trans h.a1
 ·exact (World.cell?_of_block (a:=⟨w.heap.size+1,0,none⟩) (k _ (by simp) (by simp<;>omega))).trans h.e0
 ·exact (World.cell?_of_block (a:=⟨w.heap.size+1+1+1,0,none⟩) (k _ (by simp) (by simp<;>omega))).trans h.v0
 ·exact (World.frozen?_of_block (a:=⟨w.heap.size,0,none⟩) (k _ (by simp) (by simp<;>omega))).trans h.UY
 ·exact (World.frozen?_of_block (a:=⟨w.heap.size,1,none⟩) (k _ (by simp) (by simp<;>omega))).trans h.Yz
 ·exact (World.frozen?_of_block (a:=⟨w.heap.size+1,0,none⟩) (k _ (by simp) (by simp<;>omega))).trans h.fe0
theorem Za6 (x:World)(b a o c:Nat)(u:Value)(h:a≠b):(x.setCell ⟨b,o,none⟩ u).cell? ⟨a,c,none⟩=x.cell? ⟨a,c,none⟩:=Zw (Zl x ⟨b,o,none⟩ u a h)
theorem NB.WR {w x:World}{d:Int}{v e:Value}(h:NB w x d v e)(d':Int):NB w (x.setCell ⟨w.heap.size,0,none⟩ (.int .i64 d')) d' v e :=
 ⟨h.bl.setCell (by simp) _,World.cell?_setCell_same _ _ _ h.a0,(Zac x _ 0 1 _ (by decide)).trans h.a1,(Za6 x _ _ 0 0 _ (by omega)).trans h.e0,(Za6 x _ _ 0 0 _ (by omega)).trans h.v0,by rw[World.frozen?_setCell];exact h.UY,by rw[World.frozen?_setCell];exact h.Yz,by rw[World.frozen?_setCell];exact h.fe0⟩
theorem NB.ZL {w x:World}{d:Int}{v e:Value}(h:NB w x d v e)(v':Value):NB w (x.setCell ⟨w.heap.size,1,none⟩ v') d v' e :=
 ⟨h.bl.setCell (by simp) _,(Zac x _ 1 0 _ (by decide)).trans h.a0,World.cell?_setCell_same _ _ _ h.a1,(Za6 x _ _ 1 0 _ (by omega)).trans h.e0,(Za6 x _ _ 1 0 _ (by omega)).trans h.v0,by rw[World.frozen?_setCell];exact h.UY,by rw[World.frozen?_setCell];exact h.Yz,by rw[World.frozen?_setCell];exact h.fe0⟩
theorem NB.Ir {w x:World}{d:Int}{v e:Value}(h:NB w x d v e)(e':Value):NB w (x.setCell ⟨w.heap.size+1,0,none⟩ e') d v e' :=
 ⟨h.bl.setCell (by simp) _,(Za6 x _ _ 0 0 _ (by omega)).trans h.a0,(Za6 x _ _ 0 1 _ (by omega)).trans h.a1,World.cell?_setCell_same _ _ _ h.e0,(Za6 x _ _ 0 0 _ (by omega)).trans h.v0,by rw[World.frozen?_setCell];exact h.UY,by rw[World.frozen?_setCell];exact h.Yz,by rw[World.frozen?_setCell];exact h.fe0⟩
theorem NB.below {w x y:World}{d:Int}{v e:Value}(h:NB w x d v e)(a:Below x.heap.size x y):NB w y d v e:=h.grown (Zes a)
theorem Ff {w x a:World}{n q p:Nat}{f:Nat->Nat}{d:Int}{b:Option Addr}{c lc:Nat}(g:NB w x d (.slice b c lc) .nilIface)(i:NH n f= .bad p\/∃s,NH n f= .AA p s/\p<n)(j:x.heap.size<=q)(hf:Ba a q 1 p)(e:q<a.heap.size)(h:Below x.heap.size x a) :
  Rn w.heap.size (a.setCell ⟨w.heap.size+1,0,none⟩ (.iface 172 (.pointer (some ⟨q,0,none⟩)))) n f (.returned (.tuple #[Ex d (.slice b c lc), .iface 172 (.pointer (some ⟨q,0,none⟩))])) /\
  NB w (a.setCell ⟨w.heap.size+1,0,none⟩ (.iface 172 (.pointer (some ⟨q,0,none⟩)))) d (.slice b c lc) (.iface 172 (.pointer (some ⟨q,0,none⟩))):=by
 have k:w.heap.size+1+1+1<x.heap.size:=World.block_lt_of_cell? _ _ g.v0;refine⟨Zj ⟨p,q,d,b,c,lc,i,rfl,⟨(Za6 a _ _ 0 0 _ (by omega)).trans hf.1,(Za6 a _ _ 0 1 _ (by omega)).trans hf.2⟩,by simpa[World.setCell] using e,by omega⟩,(g.below h).Ir _⟩
theorem Ut (w:World)(o1 o2 o3 o4:Obj) :
  ((((w.alloc o1).alloc o2).alloc o3).alloc o4).heap[w.heap.size]? =some o1/\((((w.alloc o1).alloc o2).alloc o3).alloc o4).heap[w.heap.size+1]? =some o2 /\
  ((((w.alloc o1).alloc o2).alloc o3).alloc o4).heap[w.heap.size+1+1]? =some o3/\((((w.alloc o1).alloc o2).alloc o3).alloc o4).heap[w.heap.size+1+1+1]? =some o4:=by
 have s1:(w.alloc o1).heap.size=w.heap.size+1:=by simp
 have s2:((w.alloc o1).alloc o2).heap.size=w.heap.size+1+1:=by simp
 have s3:(((w.alloc o1).alloc o2).alloc o3).heap.size=w.heap.size+1+1+1:=by simp
 have n1:=heap_alloc_new w o1;have n2:=heap_alloc_new (w.alloc o1) o2;have c:=heap_alloc_new ((w.alloc o1).alloc o2) o3;have d:=heap_alloc_new (((w.alloc o1).alloc o2).alloc o3) o4;rw[s1] at n2;rw[s2] at c;rw[s3] at d;have e:Below (w.alloc o1).heap.size (w.alloc o1) ((w.alloc o1).alloc o2):=(Zk _ _).alloc (Zx _) _;have b:Below ((w.alloc o1).alloc o2).heap.size ((w.alloc o1).alloc o2) (((w.alloc o1).alloc o2).alloc o3):=(Zk _ _).alloc (Zx _) _;have a:Below (((w.alloc o1).alloc o2).alloc o3).heap.size (((w.alloc o1).alloc o2).alloc o3) ((((w.alloc o1).alloc o2).alloc o3).alloc o4):=(Zk _ _).alloc (Zx _) _;refine⟨?_,?_,?_,d⟩
 ·rw[a.block _ (by omega),b.block _ (by omega),e.block _ (by omega)];exact n1
 ·rw[a.block _ (by omega),b.block _ (by omega)];exact n2
 ·rw[a.block _ (by omega)];exact c
theorem TJ (w:World)(a:Option Addr)(n cap:Nat)(f:Nat->Nat)(hn:n<=maxLen)(ha:∀b o,a=some ⟨b,o,none⟩->b<w.heap.size)(hb:Aw w a n cap f) :
  Calls prog 194 #[.slice a n cap] w fun e w'=>Rn w.heap.size w' n f e/\Below w.heap.size w w':=by
 have aj:∀(fn:Fn) (first cap:Array Value) (w:World),(Instr.makeFunc fn first cap).run prog w= .ok (.func fn first cap) w:=fun _ _ _ _=>rfl;have HB:=Zz hb;have R:Hid (∀b o,a=some ⟨b,o,none⟩->b≠w.heap.size+1+1):=Zz fun b o h=>by have:=ha b o h;omega
 clear hb ha
 have y:Hid (NB w ((((w.alloc (.cells #[.int .i64 0, .slice none 0 0] 61)).alloc (.cells #[.nilIface] 98)).alloc (.cells #[.slice a n cap, .int .i64 0] 411)).alloc (.cells #[.pointer (some ⟨w.heap.size+1+1,0,none⟩)] 409)) 0 (.slice none 0 0) .nilIface):=Zz (by
  obtain⟨n1,n2,S,n4⟩:=Ut w (.cells #[.int .i64 0, .slice none 0 0] 61) (.cells #[.nilIface] 98) (.cells #[.slice a n cap, .int .i64 0] 411) (.cells #[.pointer (some ⟨w.heap.size+1+1,0,none⟩)] 409);exact⟨Below.alloc (Below.alloc (Below.alloc (Below.alloc (Zk _ _) (Zx _) _) (by simp) _) (by simp;omega) _) (by simp;omega) _,Zad n1 0,Zad n1 1,Zad n2 0,Zad n4 0,Za9 n1 0,Za9 n1 1,Za9 n2 0⟩)
 have V:Hid (Cd ((((w.alloc (.cells #[.int .i64 0, .slice none 0 0] 61)).alloc (.cells #[.nilIface] 98)).alloc (.cells #[.slice a n cap, .int .i64 0] 411)).alloc (.cells #[.pointer (some ⟨w.heap.size+1+1,0,none⟩)] 409)) (w.heap.size+1+1) a n cap ((0:Nat):Int)):=Zz (by
  obtain⟨n1,n2,S,n4⟩:=Ut w (.cells #[.int .i64 0, .slice none 0 0] 61) (.cells #[.nilIface] 98) (.cells #[.slice a n cap, .int .i64 0] 411) (.cells #[.pointer (some ⟨w.heap.size+1+1,0,none⟩)] 409);exact⟨Zad S 0,Zad S 1,Za9 S 1⟩)
 go_enter_defers func194,ntmps194
 go_wp2_with fail
 refine (Zc7 _ (w.heap.size+1+1) a n cap f 0 hn (by omega) V.o R.o (HB.o.grown R.o (Zes y.o.bl))).mono ?_;rintro e Q ⟨⟨m,q1,F,rfl,t⟩ | ⟨F,rfl,t⟩,u⟩
 case inr =>
  have g:=Zz (y.o.grown u.grown)
  have H:Hid (NH n f= .bad 0):=Zz (by
   have s:Bg n f 1 (.AA 0 0)= .bad 0:=by simp only[Bg];exact Zcs F
   unfold NH st st0;rw[Zct s (by omega),MS])
  clear F t u;go_wp2_with fail
  refine leaves_cons (f:=260) (args:=#[.pointer (some ⟨w.heap.size+1,0,none⟩), .pointer (some ⟨w.heap.size+1+1+1,0,none⟩)]) (by simp) (by simp[go_sem]) ?_;refine (Zev _ _ 0 [] _ g.o.e0 g.o.fe0).mono ?_;rintro e u' G ⟨rfl,rfl,qf,wf,k,hf,l,d,rfl⟩;obtain⟨r1,r2⟩:=Ff (n:=n) (f:=f) g.o (Zu H.o) k hf l d;have z:=r2.a0;have s:=r2.a1;have A:=r2.e0;have K:=Zz (Zq r1 r2.bl);clear r1 r2 hf d;simp[Leaves,settle,results,Tryz.results194,go_sem,z,s,A];exact K.o
 have N:=(Zcc F).2.1;have P:Bg n f 1 (.AA 0 0)= .AA q1 0:=by simp only[Bg];exact Zcb F
 have ae:(Zah n f).dl=m:=by show ((BI n f (.AA 0 0):Nat):Int)=m;rw[Zca F]
 have g:=Zz (y.o.grown u.grown);have r:=Zz (g.o.WR m);have X:=Zz (t.set (D:=w.heap.size) (o:=0) (by omega) (.int .i64 m));have a0:=g.o.a0;have UY:=g.o.UY;have v0:=r.o.v0
 have M:w.heap.size+1+1<(Q.setCell ⟨w.heap.size,0,none⟩ (.int .i64 m)).heap.size:=by
  have:w.heap.size+1+1+1<(Q.setCell ⟨w.heap.size,0,none⟩ (.int .i64 m)).heap.size:=World.block_lt_of_cell? _ _ v0;omega
 have L:w.heap.size<(Q.setCell ⟨w.heap.size,0,none⟩ (.int .i64 m)).heap.size:=by omega
 clear F t u;go_wp2_with fail
 refine (QK _ (w.heap.size+1+1) (w.heap.size+1+1+1) a n cap f q1 0 P M (by omega) r.o.v0 hn N X.o R.o (HB.o.grown R.o (Zes r.o.bl))).mono ?_;rintro e x2 ⟨hx,E⟩;have j:=Zz (r.o.grown E);rcases hx with⟨q2,s2,x,lc,Y,Z,p,O,rfl,C,v⟩ | ⟨s2,p,rfl⟩
 case inr =>
  have H:=Zz p;clear p E a0 UY v0;go_wp2_with fail
  refine leaves_cons (f:=260) (args:=#[.pointer (some ⟨w.heap.size+1,0,none⟩), .pointer (some ⟨w.heap.size+1+1+1,0,none⟩)]) (by simp) (by simp[go_sem]) ?_;refine (Zev _ _ s2 [] _ j.o.e0 j.o.fe0).mono ?_;rintro e u' G ⟨rfl,rfl,qf,wf,k,hf,l,d,rfl⟩;obtain⟨r1,r2⟩:=Ff (n:=n) (f:=f) j.o (Zu H.o) k hf l d;have z:=r2.a0;have s:=r2.a1;have A:=r2.e0;have K:=Zz (Zq r1 r2.bl);clear r1 r2 hf d;simp[Leaves,settle,results,Tryz.results194,go_sem,z,s,A];exact K.o
 have J:=Zz (j.o.ZL (.slice x (Zah n f).n lc));have W:=Zz (v.set (D:=w.heap.size) (o:=1) (by omega) (.slice x (Zah n f).n lc))
 have T:Hid (An (Q.setCell ⟨w.heap.size,0,none⟩ (.int .i64 m)).heap.size (x2.setCell ⟨w.heap.size,1,none⟩ (.slice x (Zah n f).n lc)) (Zah n f) (.slice x (Zah n f).n lc) (Zah n f).n Y Z):=Zz
  ⟨ownsRow_setCell_below C.own (by simpa using L) _,fun i hi=>ownsRow_setCell_below (C.ID i hi) (by simpa using L) _⟩
 have H:=Zz p;clear p C v E a0 UY v0;have a1:=j.o.a1;have Yz:=j.o.Yz;have v1:=J.o.v0;go_wp2_with fail
 refine (Wx _ (w.heap.size+1+1) a n cap q2 hn O W.o).mono ?_;rintro e x4 ⟨hx,u⟩;have c:=Zz (J.o.grown u.grown);have I:=Zz (T.o.Vl u.grown M);clear a1 Yz v1;rcases hx with⟨ag,rfl⟩ | ⟨hle,rfl⟩
 ·clear u
  go_wp2_with fail
  refine leaves_cons (f:=260) (args:=#[.pointer (some ⟨w.heap.size+1,0,none⟩), .pointer (some ⟨w.heap.size+1+1+1,0,none⟩)]) (by simp) (by simp[go_sem]) ?_;refine (Zev _ _ q2 [] _ c.o.e0 c.o.fe0).mono ?_;rintro e u' G ⟨rfl,rfl,qf,wf,k,hf,l,d,rfl⟩;obtain⟨r1,r2⟩:=Ff (n:=n) (f:=f) c.o (Zj ⟨s2,H.o,ag⟩) k hf l d;have z:=r2.a0;have s:=r2.a1;have A:=r2.e0;have K:=Zz (Zq r1 r2.bl);clear r1 r2 hf d;simp[Leaves,settle,results,Tryz.results194,go_sem,z,s,A];exact K.o
 ·clear u
  have b0:=c.o.a0;have b1:=c.o.a1;have c0:=c.o.UY;have c1:=c.o.Yz;have g0:=c.o.e0;have g1:=c.o.fe0;have q:=Zz (((c.o.WR m).ZL (.slice x (Zah n f).n lc)).Ir .nilIface)
  have U:Hid (An w.heap.size (((x4.setCell ⟨w.heap.size,0,none⟩ (.int .i64 m)).setCell ⟨w.heap.size,1,none⟩ (.slice x (Zah n f).n lc)).setCell ⟨w.heap.size+1,0,none⟩ .nilIface) (Zah n f) (.slice x (Zah n f).n lc) (Zah n f).n Y Z):=Zz
   (An.base (B:=(Q.setCell ⟨w.heap.size,0,none⟩ (.int .i64 m)).heap.size) ⟨ownsRow_setCell_below (ownsRow_setCell_below (ownsRow_setCell_below I.o.own (by simp only[];omega) _) (by simp only[];omega) _) (by simp only[];omega) _,
    fun i hi=>ownsRow_setCell_below (ownsRow_setCell_below (ownsRow_setCell_below (I.o.ID i hi) (by simp only[];omega) _) (by simp only[];omega) _) (by simp only[];omega) _⟩ (by omega))
  go_wp2_with fail
  refine leaves_cons (f:=260) (args:=#[.pointer (some ⟨w.heap.size+1,0,none⟩), .pointer (some ⟨w.heap.size+1+1+1,0,none⟩)]) (by simp) (by simp[go_sem]) ?_;refine (NQ _ _ _).mono ?_;rintro e u' G ⟨rfl,rfl,rfl⟩;have z:=q.o.a0;have s:=q.o.a1;have A:=q.o.e0;simp[Leaves,settle,results,Tryz.results194,go_sem,z,s,A];exact⟨Zu ⟨q2,s2,x,lc,Y,Z,H.o,hle,by rw[ae],U.o⟩,q.o.bl⟩
section
open Go.RowKit
theorem Aw.below {w w':World}{a:Option Addr}{n cap:Nat}{f:Nat->Nat}(h:Aw w a n cap f)(e:Below w.heap.size w w'):Aw w' a n cap f:=by
 rcases h with i | ⟨b,o,rfl,j,l,c,d⟩
 ·exact Zu i
 ·exact Zj ⟨b,o,rfl,j,l,Zy c e.size,fun k g=>⟨(e.cell (p:=⟨b,o+k,none⟩) c).trans (d k g).1,(d k g).2⟩⟩
def PdecIs (B:Nat)(w':World)(n:Nat)(f:Nat->Nat)(e:Ending):Prop :=
 (∃(y:Int) (la:Option Addr) (lc:Nat) (Na:Nat->Option Addr) (Nc:Nat->Nat),Cn n f 0 y (Zah n f)/\e= .returned (.tuple #[Ex (Zah n f).dl (.slice la (Zah n f).n lc), .nilIface])/\An B w' (Zah n f) (.slice la (Zah n f).n lc) (Zah n f).n Na Nc) \/
 (∃(x y:Int) (q:Nat),x≠0/\Cn n f x y Gn/\e= .returned (.tuple #[Ex 0 (.slice none 0 0), .iface 172 (.pointer (some ⟨q,0,none⟩))])/\Ba w' q x y/\q<w'.heap.size/\B<=q)
theorem Ba.set {w:World}{q D o:Nat}{x y:Int}(h:Ba w q x y)(a:q≠D)(v:Value):Ba (w.setCell ⟨D,o,none⟩ v) q x y :=
 ⟨(Za6 w D q o 0 v a).trans h.1,(Za6 w D q o 1 v a).trans h.2⟩
theorem IH (w:World)(a:Option Addr)(n cap:Nat)(f:Nat->Nat)(hn:n<=maxLen)(X:AL w)(hg:2<w.heap.size)(Y:∀b o,a=some ⟨b,o,none⟩->b<w.heap.size)(Z:Aw w a n cap f) :
  Calls prog 126 #[.slice a n cap] w fun e w'=>PdecIs w.heap.size w' n f e/\Below w.heap.size w w':=by
 have HB:=Zz Z;have HT:=Zz X;have HA:=Zz Y;have H:Hid (∀o,Below w.heap.size w (w.alloc o)):=Zz fun o=>(Zk _ _).alloc (Zx _) _;have hN:(Zah n f).n<=2097151:=Wb _ _ _;clear Z X Y
 go_enter func126,ntmps126
 go_wp2_with fail
 refine (TJ _ a n cap f hn (fun b o h=>by have:=HA.o b o h;simp;omega) (HB.o.below (H.o _))).mono ?_;rintro e d ⟨N,k⟩;have r0:d.cell? ⟨w.heap.size,0,none⟩=some (.int .i64 0):=cell_later k (by simp);have r1:d.cell? ⟨w.heap.size,1,none⟩=some (.slice none 0 0):=cell_later k (by simp);have J:d.frozen? ⟨w.heap.size,0,none⟩=false:=(k.frozen (p:=⟨w.heap.size,0,none⟩) (by simp)).trans (by simp);have K:d.frozen? ⟨w.heap.size,1,none⟩=false:=(k.frozen (p:=⟨w.heap.size,1,none⟩) (by simp)).trans (by simp);have I:w.heap.size<d.heap.size:=by have:=k.size;simp at this;omega
 have z:Hid (Below w.heap.size w d):=Zz ((H.o _).trans (k.mono (by simp)));clear k;rcases N with⟨q,s,C,lc,L,M,r,hle,rfl,G⟩ | ⟨y,Au,x,C,c,lc,r,rfl,D,F,P⟩
 ·have A:=Zz (Zq r (Zq hle G))
  clear r G;have l:Hid (∀o,Below d.heap.size d (d.alloc o)):=Zz fun o=>(Zk _ _).alloc (Zx _) _;go_wp2_with fail
  refine (Lv (Zah n f) _ C lc L M _ (by unfold maxLen;omega) ((HT.o.Aj hg z.o).Aj (by omega) (l.o _)) (by simp;omega) (A.o.2.2.below (l.o _))).mono ?_;rintro e t ⟨Q,g⟩;have p0:t.cell? ⟨w.heap.size,0,none⟩=some (.int .i64 0):=cell_later (((l.o _).trans (g.mono (by simp)))) r0;have p1:t.cell? ⟨w.heap.size,1,none⟩=some (.slice none 0 0):=cell_later (((l.o _).trans (g.mono (by simp)))) r1;have aj:t.frozen? ⟨w.heap.size,0,none⟩=false:=((((l.o _).trans (g.mono (by simp)))).frozen (p:=⟨w.heap.size,0,none⟩) I).trans J;have al:t.frozen? ⟨w.heap.size,1,none⟩=false:=((((l.o _).trans (g.mono (by simp)))).frozen (p:=⟨w.heap.size,1,none⟩) I).trans K;have d0:t.cell? ⟨d.heap.size,0,none⟩=some (.int .i64 (Zah n f).dl):=cell_later g (by simp);have d1:t.cell? ⟨d.heap.size,1,none⟩=some (.slice C (Zah n f).n lc):=cell_later g (by simp);have m:Hid (Below d.heap.size d t):=Zz ((l.o _).trans (g.mono (by simp)));have ag:d.heap.size<=t.heap.size:=m.o.size;clear r0 r1 J K;rcases Q with⟨rfl,j⟩ | ⟨x,y,V,rfl,N,j,S,T,D⟩
  ·have O:=Zz j
   clear j g;have HC:Hid (An w.heap.size t (Zah n f) (.slice C (Zah n f).n lc) (Zah n f).n L M):=Zz ((A.o.2.2.below m.o).base (by simp));have E:Hid (An (w.heap.size+1) t (Zah n f) (.slice C (Zah n f).n lc) (Zah n f).n L M):=Zz ((A.o.2.2.below m.o).base (by simp));go_wp2_with fail
   refine bodyPost_ret (v:= .tuple #[Ex (Zah n f).dl (.slice C (Zah n f).n lc), .nilIface]) (by simp[results,Tryz.results126,go_sem,p0,p1]) rfl ⟨Zu ⟨-1,C,lc,L,M,Zj (Zj ⟨q,s,A.o.1,A.o.2.1,O.o,fun _=>rfl,fun h=>absurd rfl h⟩),rfl,?_⟩,?_⟩
   ·exact An.base (B:=w.heap.size+1) ⟨ownsRow_setCell_below (ownsRow_setCell_below E.o.own (by simp) _) (by simp) _,fun i hi=>ownsRow_setCell_below (ownsRow_setCell_below (E.o.ID i hi) (by simp) _) (by simp) _⟩ (by omega)
   ·exact ((z.o.trans (m.o.mono (by omega))).setCell (by simp) _).setCell (by simp) _
  ·have O:=Zz j
   have ae:d.heap.size<=V:=by simp at S;omega
   clear j g;go_wp2_with fail
   refine bodyPost_ret (v:= .tuple #[Ex 0 (.slice none 0 0), .iface 172 (.pointer (some ⟨V,0,none⟩))]) (by simp[results,Tryz.results126,go_sem,p0,p1]) rfl ⟨Zj ⟨x,y,V,N,Zj (Zj ⟨q,s,A.o.1,A.o.2.1,O.o,fun h=>absurd h N,fun _=>rfl⟩),rfl,(D.set (by omega) _).set (by omega) _,by simpa[World.setCell] using T,by omega⟩,?_⟩;exact ((z.o.trans (m.o.mono (by omega))).setCell (by simp) _).setCell (by simp) _
 ·have A:=Zz r
  clear r;have W:w.heap.size+1<=Au:=by simpa using P
  have HS:Hid (∀u v,Below w.heap.size w ((d.setCell ⟨w.heap.size,0,none⟩ u).setCell ⟨w.heap.size,1,none⟩ v)/\Ba ((d.setCell ⟨w.heap.size,0,none⟩ u).setCell ⟨w.heap.size,1,none⟩ v) Au 1 y/\((d.setCell ⟨w.heap.size,0,none⟩ u).setCell ⟨w.heap.size,1,none⟩ v).cell? ⟨w.heap.size,0,none⟩=some u/\((d.setCell ⟨w.heap.size,0,none⟩ u).setCell ⟨w.heap.size,1,none⟩ v).cell? ⟨w.heap.size,1,none⟩=some v/\Au<((d.setCell ⟨w.heap.size,0,none⟩ u).setCell ⟨w.heap.size,1,none⟩ v).heap.size):=Zz fun u v =>
   ⟨(z.o.setCell (by simp) _).setCell (by simp) _,(D.set (by omega) _).set (by omega) _,(Zac _ _ 1 0 _ (by decide)).trans (World.cell?_setCell_same _ _ _ r0),World.cell?_setCell_same _ _ _ ((Zac _ _ 0 1 _ (by decide)).trans r1),by simpa[World.setCell] using F⟩
  go_wp2_with fail
  obtain⟨s1,s2,s3,s4,s5⟩:=HS.o (.int .i64 0) (.slice none 0 0);have z0:=cell_later (((Zk _ _).alloc (Zx _) (.cells #[.int .i64 x, .slice C c lc] 61))) s3;have z1:=cell_later (((Zk _ _).alloc (Zx _) (.cells #[.int .i64 x, .slice C c lc] 61))) s4;have U:w.heap.size<=((d.setCell ⟨w.heap.size,0,none⟩ (.int .i64 0)).setCell ⟨w.heap.size,1,none⟩ (.slice none 0 0)).heap.size:=s1.size;refine bodyPost_ret (v:= .tuple #[Ex 0 (.slice none 0 0), .iface 172 (.pointer (some ⟨Au,0,none⟩))]) (by simp[results,Tryz.results126,go_sem,z0,z1]) rfl ⟨Zj ⟨1,y,Au,by decide,?_,rfl,s2.Aj s5 ((Zk _ _).alloc (Zx _) _),by simp;omega,by omega⟩,?_⟩
  ·rcases A.o with h | ⟨s,h,R⟩
   ·exact Zu ⟨y,h,rfl,rfl,rfl⟩
   ·exact Zj (Zu ⟨y,s,h,R,rfl,rfl,rfl⟩)
  ·exact s1.alloc U _
end
section
open Go.RowKit
end
open Go.RowKit
def BB (l:List Int):Prop:=∀x∈l,0<=x/\x<256
theorem BB.append {a b:List Int}(h:BB a)(d:BB b):BB (a++b):=fun x e=>by
 rcases List.mem_append.1 e with c | c
 ·exact h x c
 ·exact d x c
theorem Zb5:∀n:Nat,BB (Bo n):=by
 intro n
 induction n using Nat.strongRecOn with
 | _ n b =>
  by_cases h:n<128
  ·rw[Zby h]
   intro x a;simp only[List.mem_singleton] at a;omega
  ·rw[Zdw h]
   intro x a;rcases List.mem_cons.1 a with rfl | a
   ·omega
   ·exact b (n / 128) (by omega) x a
theorem QB (F:Ad)(i:Nat):BB (Kk F i):=by
 have a:∀(f:Nat->Nat) (k:Nat),BB (Cy f k):=by
  intro f k
  induction k with
  | zero=>intro x b;cases b
  | succ k c=>exact c.append (Zb5 _)
 exact ((((((((Zb5 _).append (Zb5 _)).append (Zb5 _)).append (Zb5 _)).append (Zb5 _)).append (Zb5 _)).append (Zb5 _)).append (a _ _))
theorem JQ (F:Ad):BB (Zat F):=by
 have a:∀k,BB (CL F k):=by
  intro k
  induction k with
  | zero=>intro x b;cases b
  | succ k c=>exact c.append (QB F k)
 exact ((Zb5 _).append (Zb5 _)).append (a _)
theorem LG {F:Ad}(a:Cc F)(h:∀i,i<F.n->Cp F i):(Zat F).length<=4096:=by
 have b:=Kl (k:=F.n) h;have c:=Zax (n:=F.dl.toNat) (by have:=a.dl2;omega);have d:=Zax (n:=F.n) (by have:=a.n2;omega);have:=a.n2;simp only[Zat,ZX];omega
theorem Md {B:Nat}{w:World}{v:Value}{l:List Int}(h:Al B w v l)(hl:BB l) :
  ∃(a:Option Addr) (c:Nat),v= .slice a l.length c/\(a=none->l.length=0/\c=0)/\(∀b o,a=some ⟨b,o,none⟩->b<w.heap.size)/\Aw w a l.length c (fun k=>(l.getD k 0).toNat)/\(∀k,k<l.length->(l.getD k 0).toNat<256) /\
   (l.length=0\/∃g,a=some ⟨g,0,none⟩/\∀k,k<l.length->w.cell? ⟨g,k,none⟩=(bv l)[k]?):=by
 have i:∀k,k<l.length->0<=l.getD k 0/\l.getD k 0<256:=fun k d=>by
  rw[ZQ,ZZ d];exact hl _ (List.getElem_mem _)
 have m:∀k,k<l.length->(bv l)[k]? =some (.int .u8 (((l.getD k 0).toNat:Nat):Int)):=fun k d=>by
  have n:=i k d;rw[Int.toNat_of_nonneg n.1,ZQ,ZZ d];simp[bv,d]
 rcases h.2 with⟨rfl,j⟩ | ⟨g,cap,cur,rfl,hg,hh,p,q,r,s⟩
 ·refine⟨none,0,by rw[j],fun _=>⟨j,rfl⟩,fun b o e=>by (cases e),Zu j,fun k d=>by omega,Zu j⟩
 ·obtain⟨f,_⟩:=Array.getElem?_eq_some_iff.1 hh
  have key:∀k,k<l.length->w.cell? ⟨g,k,none⟩=(bv l)[k]? :=fun k d=>h.cellAt k (by omega)
  refine⟨_,_,rfl,fun e=>by (cases e),fun b o e=> ?_,Zj ⟨g,0,rfl,p,q,f,fun k d=>⟨by rw[Nat.zero_add,key k d];exact m k d,by show (l.getD k 0).toNat<256;have:=i k d;omega⟩⟩,fun k d=>by have:=i k d;omega,Zj ⟨g,rfl,key⟩⟩;obtain⟨rfl,_⟩:g=b/\0=o:=by simpa using e
  exact f
def Zbm (l:List Int):ByteArray:=l.foldl (fun r n=>r.push (UInt8.ofNat n.toNat)) ByteArray.empty
theorem FP {w:World}{g c:Nat}{l:List Int}(h:∀k,k<l.length->w.cell? ⟨g,k,none⟩=(bv l)[k]?) :
  (convert 112 9 (.slice (some ⟨g,0,none⟩) l.length c)).run prog w= .ok (.string (Zbm l)) w:=by
 rw[run_convert_bytes_string w 112 9 5 _ _ _ underlying112 underlying5 underlying9]
 have hl:=run_loadCells_list (P:=prog) w ⟨g,0,none⟩ (bv l) (fun j v b=>by
  have a:j<l.length:=by have:=(List.getElem?_eq_some_iff.1 b).1;simpa[bv] using this
  rw[show (⟨g,0,none⟩:Addr).add j=⟨g,j,none⟩ by rw[Zce,Nat.zero_add],h j a,b])
 rw[Fj] at hl;exact run_bytesToString w ⟨g,0,none⟩ l.length c l hl
theorem KD (w:World):(convert 112 9 (.slice none 0 0)).run prog w= .ok (.string ByteArray.empty) w:=by kernel_rfl
open Go.RowKit
open Go.Maps (Keyed)
def Ep:Value->Option (DataW Unit×List MemPlace)
 | .pointer (some ⟨b,0,none⟩)=>some (.lit (.int .u64 b),[])
 | .pointer none=>some (.nil,[])
 | _=>none
theorem TT {v:Value}{b:Int}{ps:List MemPlace}(h:Ep v=some (.lit (.int .u64 b),ps)):∃n:Nat,b=n/\v= .pointer (some ⟨n,0,none⟩):=by
 unfold Ep at h
 split at h
 ·simp at h;exact⟨_,h.1.symm,rfl⟩
 ·simp at h
 ·cases h
theorem CK:Keyed prog 9:=Maps.string_keyed underlying9
theorem XB (w:World):(zeroValue 144).run prog w= .ok (.pointer none) w:=by kernel_rfl
def ND:Nat->List UInt8
 | 0=>[108,111,103]
 | 1=>[108,111,103,48]
 | _=>[108,111,103,49]
def Da (i:Nat):ByteArray:=⟨(ND i).toArray⟩
theorem Jv {i j:Nat}(hi:i<3)(a:j<3)(h:ND i=ND j):i=j:=by
 have:∀i:Fin 3,∀j:Fin 3,ND i.val=ND j.val->i=j:=by decide
 exact congrArg Fin.val (this ⟨i,hi⟩ ⟨j,a⟩ h)
theorem GQ (i:Nat):keyOf prog 9 (.string (Da i))=some (.string (ND i)):=by
 have:=WideMaps.keyOf_string_mk (P:=prog) underlying9 (s:=Da i) (by unfold maxLen Da ND;split<;>decide);simpa[Da] using this
def Hy (f:BG):Nat:=(if (f 0).isSome then 1 else 0)+(if (f 1).isSome then 1 else 0)+(if (f 2).isSome then 1 else 0)
theorem Ru (f:BG):Hy f<=3:=by unfold Hy;split<;>split<;>split<;>omega
def Zde (w:World)(b:Nat)(s:List Int):Prop:=w.heap[b]? =some (.cells #[.string (Zbm s)] 9 (0,0))
structure AB (w:World)(bm:Nat)(f:BG)(D:DataW Unit):Prop where
 own:w.ownsMap prog 9 Ep bm 3 D
 size:Maps.size D=Hy f
 has:∀key,Maps.has D (.string key)=true↔∃i,i<3/\key=ND i/\(f i).isSome=true
 at_:∀i s,i<3->f i=some s->∃b:Nat,D.atKey (.string (ND i)) .nil= .lit (.int .u64 b)/\Zde w b s
theorem AB.YC {w:World}{b:Nat}{f:BG}{D:DataW Unit}(h:AB w b f D){i:Nat}(hi:i<3):Maps.has D (.string (ND i))=(f i).isSome:=by
 cases e:(f i).isSome with
 | true=>exact (h.has _).2 ⟨i,hi,rfl,e⟩
 | false =>
  cases c:Maps.has D (.string (ND i)) with
  | false=>rfl
  | true =>
   obtain⟨j,g,d,a⟩:=(h.has _).1 c;have:=Jv hi g d;subst this;rw[e] at a;cases a
theorem AB.look {w:World}{d:Nat}{f:BG}{D:DataW Unit}(h:AB w d f D){i:Nat}(hi:i<3):∃v,(Instr.lookup 89 (.map (some d)) (.string (Da i)) true).run prog w= .ok (.tuple #[v, .bool (f i).isSome]) w/\∀s,f i=some s->∃b:Nat,v= .pointer (some ⟨b,0,none⟩)/\Zde w b s:=by
 obtain⟨v,ps,a,e⟩:=World.ownsMap.look_ok h.own CK underlying89 (XB w) (zd:= .nil) (zp:=[]) rfl (GQ i);rw[h.YC hi] at a;refine⟨v,a,fun s k=> ?_⟩;obtain⟨b,j,g⟩:=h.at_ i s hi k;rw[j] at e;obtain⟨n,hn,c⟩:=TT e;have:b=n:=by omega
 subst this;exact⟨b,c,g⟩
theorem AB.Et {w w':World}{a:Nat}{f:BG}{D:DataW Unit}(h:AB w a f D)(hm:w'.heap[a]? =w.heap[a]?)(j:∀k s,Zde w k s->w'.heap[k]? =w.heap[k]?):AB w' a f D:=by
 refine⟨?_,h.size,h.has,fun i s hi e=> ?_⟩
 ·obtain⟨es,clock,g,r⟩:=h.own
  exact⟨es,clock,hm.trans g,r⟩
 ·obtain⟨b,d,c⟩:=h.at_ i s hi e
  exact⟨b,d,(j b _ c).trans c⟩
theorem AB.Aj {w w':World}{a:Nat}{f:BG}{D:DataW Unit}(h:AB w a f D)(hm:w'.heap[a]? =w.heap[a]?)(b:∀(k:Nat) (cs:Array Value) (fr:Nat×Nat),w.heap[k]? =some (Obj.cells cs 9 fr)->w'.heap[k]? =w.heap[k]?):AB w' a f D :=
 h.Et hm (fun k _ e=>b k _ _ e)
theorem Ym {f:BG}{i:Nat}{s:List Int}(hi:i<3){g:BG}(hg:∀j,g j=if j=i then some s else f j):Hy g=if (f i).isSome then Hy f else Hy f+1:=by
 have:i=0\/i=1\/i=2:=by omega
 unfold Hy;rcases this with rfl | rfl | rfl<;>simp[hg]<;>(cases a:(f 0).isSome<;>cases b:(f 1).isSome<;>cases c:(f 2).isSome<;>simp)
theorem Yl {f:BG}{i:Nat}(hi:i<3){g:BG}(hg:∀j,g j=if j=i then none else f j):Hy g=if (f i).isSome then Hy f - 1 else Hy f:=by
 have:i=0\/i=1\/i=2:=by omega
 unfold Hy;rcases this with rfl | rfl | rfl<;>simp[hg]<;>(cases a:(f 0).isSome<;>cases b:(f 1).isSome<;>cases c:(f 2).isSome<;>simp)
theorem YJ (l:List UInt8):WideAt.IsKeyLit (.string l):=by simp[WideAt.IsKeyLit]
theorem AB.store {w:World}{y:Nat}{f:BG}{D:DataW Unit}(h:AB w y f D){i:Nat}(hi:i<3){nb:Nat}{s:List Int}(B:Zde w nb s){g:BG}(hg:∀j,g j=if j=i then some s else f j) :
  ∃w' C,(Instr.mapUpdate 89 (.map (some y)) (.string (Da i)) (.pointer (some ⟨nb,0,none⟩))).run prog w= .ok () w'/\AB w' y g C/\w.grownBy w' (some y):=by
 obtain⟨w',z,u,q⟩:=World.ownsMap.update h.own CK underlying89 (by unfold maxLen;omega) (GQ i) (val:= .pointer (some ⟨nb,0,none⟩)) (d:= .lit (.int .u64 nb)) (ps:=[]) rfl;have l:=h.own.tidy CK;have A:=YJ (ND i);have a:=l.isMap
 have r:∀(k:Nat) (cs:Array Value) (fr:Nat×Nat),w.heap[k]? =some (Obj.cells cs 9 fr)->w'.heap[k]? =w.heap[k]? :=fun k cs fr e=>q.block k (Zaa e) (fun o=>by
  obtain⟨es,clock,E,_⟩:=h.own;simp only[Option.some.injEq] at o;subst o;rw[E] at e;cases e)
 have v:Maps.size (D.put (.string (ND i)) (.lit (.int .u64 nb)))=Hy g:=by
  rw[Maps.size_put l,h.YC hi,h.size,Ym hi hg]
 refine⟨w',_,z,⟨?_,v,fun key=> ?_,fun j t p e=> ?_⟩,q⟩
 ·have:=Zcq u
  rw[v] at this;exact this.mono (Ru g)
 ·by_cases e:key=ND i
  ·subst e
   rw[Maps.has_put_same a A];simp only[true_iff];exact⟨i,hi,rfl,by rw[hg,if_pos rfl];rfl⟩
  ·rw[Maps.has_put_other (fun o=>e (by injection o)),h.has]
   constructor
   ·rintro⟨j,p,m,n⟩
    exact⟨j,p,m,by rw[hg,if_neg (fun x=>e (by rw[m,x]))];exact n⟩
   ·rintro⟨j,p,m,n⟩
    rw[hg,if_neg (fun x=>e (by rw[m,x]))] at n;exact⟨j,p,m,n⟩
 ·rw[hg] at e
  by_cases c:j=i
  ·subst c
   rw[if_pos rfl] at e;simp only[Option.some.injEq] at e;subst e;exact⟨nb,Maps.atKey_put_same a A _ _,(r nb _ _ B).trans B⟩
  ·rw[if_neg c] at e
   obtain⟨b,m,n⟩:=h.at_ j t p e;exact⟨b,by rw[Maps.atKey_put_other (fun o=>c (Jv p hi (by injection o)))];exact m,(r b _ _ n).trans n⟩
theorem SL (w:World):AB (w.alloc (.map #[] 0)) w.heap.size Di (.map []) :=
 ⟨(World.ownsMap_made w _ _ _).mono (by omega),rfl,fun key=>by simp[Maps.has,Di],fun i s _ e=>by cases e⟩
inductive Ew:Ab->List Int->Ab->Prop
 | AN {e e':Ab} {l:List Int} {y:Int}:Cn l.length (fun k=>(l.getD k 0).toNat) 0 y (Zah l.length (fun k=>(l.getD k 0).toNat))->BB l->e.AN (Zah l.length (fun k=>(l.getD k 0).toNat))=some e'->Ew e (AX 1 l 0) e'
 | Bk {e e':Ab} {p:AZ} {t k:Int}:e.Bk=some (p,t,k,e')->Ew e (AX 2 [] 0) e'
 | BZ {e e':Ab} {n:Nat}:n<18446744073709551616->e.BZ n=some e'->Ew e (AX 3 [] n) e'
 | complete {e e':Ab} {n:Nat}:n<18446744073709551616->e.complete n=some e'->Ew e (AX 4 [] n) e'
 | fail {e e':Ab} {n:Nat}:n<18446744073709551616->e.fail n=some e'->Ew e (AX 5 [] n) e'
 | cancel {e e':Ab} {n:Nat}:n<18446744073709551616->e.cancel n=some e'->Ew e (AX 6 [] n) e'
 | tick {e e':Ab} {n:Nat}:n<18446744073709551616->BU e n e'->Ew e (AX 7 [] n) e'
 | At {e:Ab} {n:Nat}:n<18446744073709551616->Ew e (AX 8 [] n) { e with At:=n }
inductive Dc:Ab->List (List Int)->Ab->Prop
 | nil (e:Ab):Dc e [] e
 | cons {e e1 e2:Ab} {l:List Int} {r:List (List Int)}:Ew e l e1->Dc e1 r e2->Dc e (l::r) e2
theorem Dc.snoc {e a b:Ab}{r:List (List Int)}{l:List Int}(h:Dc e r a)(g:Ew a l b):Dc e (r++[l]) b:=by
 induction h with
 | nil e=>exact .cons g (.nil _)
 | cons c _ d=>exact .cons c (d g)
def DH (recs:List (List Int)):BG:=fun i=>if i=0 then (if recs=[] then none else some (recs.flatMap Zas)) else none
theorem Oh:DH []=Di:=by funext i;unfold DH Di;simp
theorem Lz (a:List (List Int))(l:List Int):Ez (DH a) ⟨2,0,Zcx 0 l⟩=DH (a++[l]):=by
 funext i
 unfold Ez DH;by_cases h:i=0
 ·subst h
  by_cases b:a=[]
  ·subst b;simp[Zcx]
  ·simp[Zcx,b]
 ·simp[h]
end Go.Proofs.YtgdcjccbdmcebaaGreatDoor
