import Derived.Test.YtgdcjccbdmcebaaGreatDoorM45
set_option linter.unusedSimpArgs false
set_option linter.unusedVariables false
set_option maxHeartbeats 8000000
set_option maxRecDepth 100000
open Go.Proofs.Tryz
namespace Go.Proofs.YtgdcjccbdmcebaaGreatDoor
open Go.RowKit
attribute [local go_sem ↓] Go.wp_at_zero Go.wp_at_succ
variable {ob:Option Nat}{w' w:World}{e:Ab}{B0:Nat}{ev x:Value}{er:Int}{cs:Array Value}
def IB (e:Ab)(a b c f:Int)(y:Bool)(e':Ab):Prop :=
 (e.Bk=none/\a=0/\b=0/\c=0/\f=0/\y=false/\e'=e)\/∃p t tk,e.Bk=some (p,t,tk,e')/\a=p.run/\b=p.node/\c=t/\f=tk/\y=true
theorem Lq.Rf {g j:AS}{d d':Ay}{e':Ab}{N:Nat}(h:Lq g d e x j d' e')(ws:BD g d N e):∃a b c f y,x= .tuple #[.agg #[.int .u64 a, .int .i64 b, .int .i64 c, .int .u64 f], .bool y,AH 0]/\IB e a b c f y e'/\d'.down=false/\BD j d'.calm (N+1000000) e':=by
 rcases h with⟨i,rfl,rfl,rfl,rfl⟩ | ⟨p,t,k,q,v,i,rfl,rfl,rfl,rfl,rfl⟩
 ·exact⟨0,0,0,0,false,rfl,Zu ⟨i,rfl,rfl,rfl,rfl,rfl,rfl⟩,ws.down,ws.calm⟩
 ·obtain⟨q1,m,o⟩:=ws.add (l:=AX 2 [] 0) (by have:=(Zdu (op:=2) (data:=[]) (n:=0) (by decide)).2;simp at this;omega) (.Bk i)
  rw[q1];exact⟨p.run,p.node,t,k,true,rfl,Zj ⟨p,t,k,i,rfl,rfl,rfl,rfl,rfl⟩,m,o⟩
theorem Dg.stay {P B R D bd bn rb:Nat}{a b c d:Int}(h:Dg w rb a b c d)(hf:EF w w' P B R D bd bn ob)(f:rb≠P/\rb≠D/\rb≠bd/\rb≠bn):Dg w' rb a b c d:=⟨hf.Cx h.Au f (by decide)⟩
theorem If (w:World)(s P B R D bd bn N:Nat)(ob:Option Nat)(e:Ab)(h:Bd w s P B R D bd bn ob N e)(ok:Ak e)(AQ:AD e)(hN:N<=1000000000000) :
  Calls prog 61 #[.pointer (some ⟨s,0,none⟩),Zbl (-1) (-1) 0 0] w fun x w'=>∃i a b c f y e',x= .returned (.tuple #[.agg #[.int .u64 a, .int .i64 b, .int .i64 c, .int .u64 f], .bool y, .int .i64 0])/\IB e a b c f y e'/\Bd w' s P B R D bd bn i (N+1000000) e'/\As w ob i/\EF w w' P B R D bd bn ob:=by
 obtain⟨g,d,h1,ws⟩:=h.ex;have q:=h.ne;obtain⟨fb,I⟩:∃fb,fb=w.heap.size:=⟨_,rfl⟩;obtain⟨rb,M⟩:∃rb,rb=w.heap.size+1:=⟨_,rfl⟩;obtain⟨A,u⟩:∃A,A=(w.alloc (.cells #[.int .i64 (-1), .int .i64 (-1), .int .i64 0, .int .i64 0] 35)).alloc (.cells #[.int .u64 0, .int .i64 0, .int .i64 0, .int .u64 0] 48):=⟨_,rfl⟩;have m:Below w.heap.size w A:=by rw[u];exact ((Zk _ _).alloc (Zx _) _).alloc (by simp) _
 have V:=h1.pl;have t:=h1.ne
 have C:∀k,w.heap.size<=k->k≠P/\k≠D/\k≠bd/\k≠bn:=fun k hk=>by
  have:=t.p;have:=t.d;have:=t.md;have:=t.mn;exact⟨by omega,by omega,by omega,by omega⟩
 have al:Dg A rb 0 0 0 0:=⟨by rw[u,M];exact Zbk _ _ _ _ (by simp)⟩
 have HA:=Zz (show AO A A s P B R D bd bn fb ob ob g d e (-1) (-1) 0 0 from
  ⟨h1.below m,h.host.at_ (m.block s (Zaa h.host.Au)),h.err.Aj m,EF.Ae P B R D bd bn ob (Zk _ _),As.refl _ _,by rw[u,I,Zao _ _ _ (by simp)];exact heap_alloc_new w _⟩)
 have Q:=Zz (show Calls prog 34 #[.pointer (some ⟨s,0,none⟩),Zbl (-1) (-1) 0 0] A fun x w'=>x= .returned (.tuple #[])/\AO A w' s P B R D bd bn fb ob ob g d e (-1) (-1) 0 0 from by
  refine (Zdm A s P B R D bd bn N ob g d e _ 0 0 HA.o.Fk ws HA.o.host).mono ?_;rintro x w' ⟨rfl,q1,W⟩;exact⟨rfl,HA.o.one q q1 W⟩)
 have X:=Zz (show ∀w2,AO A w2 s P B R D bd bn fb ob ob g d e (-1) (-1) 0 0->Calls prog 102 #[.pointer (some ⟨P,0,none⟩)] w2 fun x w'=>∃a b c f y E d' e' i,x= .returned (.tuple #[.agg #[.int .u64 a, .int .i64 b, .int .i64 c, .int .u64 f], .bool y,AH 0])/\IB e a b c f y e'/\d'.down=false/\BD E d'.calm (N+1000000) e'/\AO A w' s P B R D bd bn fb ob i E d' e' (-1) (-1) 0 0 from fun w2 r=>by
  refine (SG w2 P B R D bd bn N ob g d e r.Fk ok AQ (ws.fit hN)).mono ?_;rintro x w' ⟨v,E,d',e',i,rfl,q1,W,q3,q4⟩;obtain⟨a,b,c,f,y,rfl,r2,r3,r4⟩:=q1.Rf ws;exact⟨a,b,c,f,y,E,d',e',i,rfl,r2,r3,r4,r.call q W q3 q4⟩)
 have O:=Zz (show ∀F w4 E d' e' i pb a b c f,d'.down=false->AO A F s P B R D bd bn fb ob i E d' e' (-1) (-1) 0 0->Below F.heap.size F w4->Dg w4 pb a b c f->F.heap.size<=pb->Calls prog 36 #[.pointer (some ⟨s,0,none⟩),Zbl (-1) (-1) 0 0] w4 fun x w'=>x= .returned (.tuple #[])/\AO A w' s P B R D bd bn fb ob i E d'.calm e' (-1) (-1) 0 0/\Dg w' pb a b c f/\Dg w' rb 0 0 0 0 from fun F w4 E d' e' i pb a b c f H r ay ar K=>by
  have n:=r.below ay;refine (Zc4 w4 s P B R D bd bn i E d' _ _ _ _ 0 0 n.Fk H n.host).mono ?_;rintro x w' ⟨rfl,q1,W⟩;have j:=n.one q q1 W;have hs:=r.ef.size;have br:=m.size;exact⟨rfl,j,ar.at_ (W.block pb (Zaa ar.Au) (C pb (by omega)).2.1),al.stay j.ef (C rb (by omega))⟩)
 have HR:=Zz (Zq u (Zq I (Zq q (Zq m M))));have av:=Zz (show B<=w.heap.size from V.2);unfold Zbl at Q O ⊢;clear h ok AQ hN h1 ws q u I M m V t C al
 go_enter func61,ntmps61
 go_upto_region 1 with fail
 rw[<-HR.o.2.2.2.2,<-HR.o.2.1,<-HR.o.1];obtain⟨⟨⟨⟨z0,z1⟩,z2⟩,z3⟩,z4⟩:=HA.o.cells
 go_upto_region 6 with (first
  | (go_at_call 34;refine Q.o.mono ?_;rintro _ w2 ⟨rfl,r⟩;have H2:=Zz r;obtain⟨⟨⟨⟨y0,y1⟩,y2⟩,y3⟩,y4⟩:=r.cells;clear r)
  | (go_at_call 102;refine (X.o _ H2.o).mono ?_;rintro _ F ⟨a,b,c,f,y,E,d',e',i,rfl,ag,H,au,r⟩;have H3:=Zz (Zq r (Zq H (Zq au ag)));have n:=r.below ((Zk F.heap.size F).alloc (Zx _) (.cells #[.int .u64 a, .int .i64 b, .int .i64 c, .int .u64 f] 48));obtain⟨⟨⟨⟨x0,x1⟩,x2⟩,x3⟩,x4⟩:=n.cells;clear r H au ag n)
  | (go_at_call 36;refine (O.o _ _ _ _ _ _ F.heap.size a b c f H3.o.2.1 H3.o.1 ((Zk _ _).alloc (Zx _) _) ⟨heap_alloc_new _ _⟩ (Zx _)).mono ?_;rintro _ w4 ⟨rfl,r,hp,hr⟩;have S:=Zz (Zq r (Zq hp hr));clear r hp hr))
 obtain⟨pb,K⟩:∃pb,pb=F.heap.size:=⟨_,rfl⟩;rw[<-K];have T:=Zz (show Dg w4 pb a b c f from by rw[K];exact S.o.2.1);obtain⟨⟨⟨f0,f1⟩,f2⟩,f3⟩:=S.o.2.2.AE;obtain⟨⟨⟨t0,t1⟩,t2⟩,t3⟩:=T.o.cells;obtain⟨⟨⟨s0,s1⟩,s2⟩,s3⟩:=S.o.2.2.cells;clear z0 z1 z2 z3 z4 y0 y1 y2 y3 y4 x0 x1 x2 x3 x4 K
 have Y:=Zz (show ∀wx,Below w4.heap.size w4 wx->Calls prog 37 #[AH 0] wx fun x w'=>x= .returned (.int .i64 0)/\Below w4.heap.size w4 w' from fun wx U=>(Zch 0 wx (S.o.1.err.Aj U)).mono (by
  rintro x w' ⟨rfl,ax⟩;exact⟨rfl,U.trans (ax.mono U.size)⟩))
 go_region_with (go_at_call 37;refine (Y.o _ ((Zk _ _).drew)).mono ?_;rintro _ w5 ⟨rfl,G⟩;have H5:=Zz G;have L:=S.o.2.2.at_ (G.block rb (Zaa S.o.2.2.Au));have ae:=T.o.at_ (G.block pb (Zaa T.o.Au));have Z:=Zz L;obtain⟨⟨⟨g0,g1⟩,g2⟩,g3⟩:=L.AE;obtain⟨⟨⟨u0,u1⟩,u2⟩,u3⟩:=ae.cells;obtain⟨⟨⟨v0,v1⟩,v2⟩,v3⟩:=L.cells;clear G L ae)
 all_goals go_wp2_with fail
 all_goals
  have aj:=Fh (Z.o.set a b c f);have J:=Ax.Iq w5 rb (.int .u64 a) (.int .i64 b) (.int .i64 c) (.int .u64 f);obtain⟨u,I,q,m,M⟩:=HR.o;obtain⟨n,bo,bp⟩:=S.o;have j:=n.below H5.o;have t:=j.Fk.ne;have bj:=t.l.gl;have V:=j.Fk.pl;have bh:=av.o;have hP:P≠rb:=by omega
  have bf:4<rb:=by omega
  have b9:s≠rb:=by have:=q.b;omega
  have aw:EF w w5 P B R D bd bn ob:=(EF.Ae P B R D bd bn ob m).trans j.ef (As.refl _ _);refine bodyPost_ret (v:= .tuple #[.agg #[.int .u64 a, .int .i64 b, .int .i64 c, .int .u64 f], .bool y, .int .i64 0]) (by rw[Zbn rfl];simp[Result.andThen,asAddr,aj,Act.put]) rfl ?_;refine⟨i,a,b,c,f,y,e',rfl,H3.o.2.2.2,⟨⟨_,_,j.Fk.one J hP ⟨_,_,Z.o.Au⟩ bf,H3.o.2.2.1⟩,j.host.at_ (J.block s (Zaa j.host.Au) b9),?_,q⟩,fun k hk=> ?_,aw.one J (by omega)⟩
  ·have az:0<w5.heap.size:=World.block_lt_of_cell? _ _ j.err
   exact (World.cell?_of_block (a:=⟨0,0,none⟩) (J.block 0 az (by omega))).trans j.err
  ·rcases j.MY k hk with z | z
   ·exact Zu z
   ·exact Zj (Zv m.size z)
theorem DY.Aj {B B':Nat}{id:Int}{v:Value}(h:DY B w e id v er)(a:∀(n:Nat) (x:Value) (xs:List Value),w.ownsRow B 3 1 x n xs->w'.ownsRow B' 3 1 x n xs):DY B' w' e id v er:=by
 rcases h with h | ⟨i,a1,a2,c1,c2,q1,b,c,d,f⟩
 ·exact Zu h
 ·exact Zj ⟨i,a1,a2,c1,c2,q1,b,c,a _ _ _ d,a _ _ _ f⟩
theorem Bd.below {a P B R D bd bn N:Nat}(h:Bd w a P B R D bd bn ob N e)(hw:Below w.heap.size w w'):Bd w' a P B R D bd bn ob N e:=by
 obtain⟨g,d,b,c⟩:=h.ex;exact⟨⟨g,d,b.below hw,c⟩,h.host.at_ (hw.block a (Zaa h.host.Au)),h.err.Aj hw,h.ne⟩
theorem JU (w:World)(O P B R D bd bn N:Nat)(ob:Option Nat)(e:Ab)(id:Int)(h:Bd w O P B R D bd bn ob N e) :
  Calls prog 27 #[.pointer (some ⟨O,0,none⟩), .int .u64 id] w fun x w'=>∃v er,x= .returned (.tuple #[v, .int .i64 er])/\DY w.heap.size w' e id v er/\Below w.heap.size w w':=by
 obtain⟨g,d,V,ws⟩:=h.ex;obtain⟨rb,A⟩:∃rb,rb=w.heap.size:=⟨_,rfl⟩;obtain⟨C,r⟩:∃C,C=w.alloc (.cells #[.int .u64 0, .int .i64 0, .slice none 0 0, .slice none 0 0] 50):=⟨_,rfl⟩;have i:Below w.heap.size w C:=by rw[r];exact (Zk _ _).alloc (Zx _) _
 have G:BC C rb 0 0 (.slice none 0 0) (.slice none 0 0):=⟨by rw[r,A];exact heap_alloc_new w _⟩;have X:=Zz (PW C P B R D bd bn ob g d e id (V.below i));have J:Bm C O D (.pointer (some ⟨P,0,none⟩)):=h.host.at_ (i.block O (Zaa h.host.Au));have z4:=J.cells.2;have F:=Zz (show ∀wx er,Below w.heap.size w wx->Calls prog 37 #[AH er] wx fun x w'=>x= .returned (.int .i64 er)/\Below wx.heap.size wx w' from fun wx er S=>Zch er wx (h.err.Aj S));have f:=Zz (Zq r (Zq A (Zq i G)));clear h V ws r A i G J
 go_enter func27,ntmps27
 go_upto_region 1 with fail
 rw[<-f.o.2.1,<-f.o.1]
 go_upto_region 4 with (go_at_call 73;refine X.o.mono ?_;rintro _ M ⟨v,er,rfl,T,H⟩;obtain⟨c,st,a1,n1,c1,a2,n2,c2,rfl⟩:=T.form;have E:=Zz (Zq T H);clear T H)
 obtain⟨pb,z⟩:∃pb,pb=M.heap.size:=⟨_,rfl⟩;obtain⟨u,s⟩:∃u,u=M.alloc (.cells #[.int .u64 c, .int .i64 st, .slice a1 n1 c1, .slice a2 n2 c2] 50):=⟨_,rfl⟩;rw[<-z,<-s];have a:Below M.heap.size M u:=by rw[s];exact (Zk _ _).alloc (Zx _) _
 have y:BC u pb c st (.slice a1 n1 c1) (.slice a2 n2 c2):=⟨by rw[s,z];exact heap_alloc_new M _⟩;have l:BC u rb 0 0 (.slice none 0 0) (.slice none 0 0):=f.o.2.2.2.at_ ((a.block rb (Zy (Zaa f.o.2.2.2.Au) E.o.2.size)).trans (E.o.2.block rb (Zaa f.o.2.2.2.Au)));have I:Below w.heap.size w u:=(f.o.2.2.1.trans (E.o.2.mono f.o.2.2.1.size)).trans (a.mono (Zv f.o.2.2.1.size E.o.2.size));obtain⟨⟨⟨f0,f1⟩,f2⟩,f3⟩:=l.AE;obtain⟨⟨⟨t0,t1⟩,t2⟩,t3⟩:=y.cells;obtain⟨⟨⟨s0,s1⟩,s2⟩,s3⟩:=l.cells;have t:=Zz (Zq I (Zq y (Zq l a)));clear I y l a z4 s z
 go_region_with (go_at_call 37;refine (F.o _ er (t.o.1.drew)).mono ?_;rintro _ W ⟨rfl,j⟩;have k:=Below.trans ((Zk u.heap.size u).drew) j;have U:=Zz k;have m:=t.o.2.2.1.at_ (k.block rb (Zaa t.o.2.2.1.Au));have K:=t.o.2.1.at_ (k.block pb (Zaa t.o.2.1.Au));have b:=Zz m;obtain⟨⟨⟨g0,g1⟩,g2⟩,g3⟩:=m.AE;obtain⟨⟨⟨u0,Z⟩,u2⟩,u3⟩:=K.cells;obtain⟨⟨⟨v0,v1⟩,v2⟩,v3⟩:=m.cells;clear j k m K)
 all_goals go_wp2_with fail
 all_goals
  have L:=GN (b.o.set _ _ c st (.slice a1 n1 c1) (.slice a2 n2 c2));have q:=f.o.2.1;have j:Below w.heap.size w W:=t.o.1.trans (U.o.mono t.o.1.size);have Q:Below w.heap.size w ((((W.setCell ⟨rb,0,none⟩ (.int .u64 c)).setCell ⟨rb,1,none⟩ (.int .i64 st)).setCell ⟨rb,2,none⟩ (.slice a1 n1 c1)).setCell ⟨rb,3,none⟩ (.slice a2 n2 c2)):=(((j.setCell (p:=⟨rb,0,none⟩) (Nat.le_of_eq q.symm) _).setCell (p:=⟨rb,1,none⟩) (Nat.le_of_eq q.symm) _).setCell (p:=⟨rb,2,none⟩) (Nat.le_of_eq q.symm) _).setCell (p:=⟨rb,3,none⟩) (Nat.le_of_eq q.symm) _;refine bodyPost_ret (v:= .tuple #[.agg #[.int .u64 c, .int .i64 st, .slice a1 n1 c1, .slice a2 n2 c2], .int .i64 er]) (by rw[results_cell_tmp rfl];simp[Result.andThen,asAddr,L,Act.put]) rfl ?_;exact⟨_,er,rfl,E.o.1.Aj (fun n x xs Y=>Zcr (Zae (Zae (Zae (Zae (Zam (Zam Y t.o.2.2.2) U.o) b.o.Au (by decide) _) (Zab b.o.Au _) (by decide) _) (Zab (Zab b.o.Au _) _) (by decide) _) (Zab (Zab (Zab b.o.Au _) _) _) (by decide) _) f.o.2.2.1.size),Q⟩
theorem AK.one8 {P B R D bd bn rb:Nat}{g:AS}{d:Ay}(h:AK w P B R D bd bn ob g d e)(b:Ax w w' rb)(m:P≠rb){fr:Nat×Nat}(n:w.heap[rb]? =some (.cells cs 5 fr))(u:4<rb):AK w' P B R D bd bn ob g d e:=by
 obtain⟨r,s⟩:=h.pl;have p:=h.ne.l.gl;have f:P<w.heap.size:=by omega
 obtain⟨rs,l,q,j⟩:=h.kp;have nf:NF w w' P B:=⟨b.size,fun o _=>World.cell?_of_block (a:=⟨P,o,none⟩) (b.block P f m),fun o=>World.frozen?_of_block (a:=⟨P,o,none⟩) (b.block P f m),fun k cs t fr _ e j=>b.block k (Zaa e) (Zai e n (by unfold Rl at j;rcases j with rfl | rfl | rfl | rfl | rfl | rfl | rfl | rfl | rfl | rfl<;>decide)),fun k es c _ e=>b.block k (Zaa e) (fun y=>by rw[y,n] at e;cases e)⟩;refine⟨⟨rs,l,q.side nf,j⟩,h.log.at_ (b.block P f m),h.dk.one b n,fun i hi=> ?_,h.Je.at_ (b.block _ (by omega) (by omega)),h.ne⟩;have e:=b.block 1 (by omega) (by omega);exact (World.cell?_of_block (a:=⟨1,i,none⟩) e).trans (h.nm i hi)
def Pz (B0:Nat)(w:World)(ev:Value)(er at_:Int):Prop:=(∃q:Nat,ev= .iface 172 (.pointer (some ⟨q,0,none⟩))/\Ba w q er at_/\q<w.heap.size/\B0<=q)\/(ev=AH er/\at_= -1)
theorem Pz.Aj {at_:Int}(h:Pz B0 w ev er at_)(g:w.heap.size<=w'.heap.size)(c:∀k,B0<=k->k<w.heap.size->w'.heap[k]? =w.heap[k]?):Pz B0 w' ev er at_:=by
 rcases h with⟨q,q1,d,f,b⟩ | h
 ·exact Zu ⟨q,q1,⟨(World.cell?_of_block (a:=⟨q,0,none⟩) (c q b f)).trans d.1,(World.cell?_of_block (a:=⟨q,1,none⟩) (c q b f)).trans d.2⟩,by omega,b⟩
 ·exact Zj h
theorem ZU {at_:Int}(h:Pz B0 w ev er at_)(he:Az w):Calls prog 40 #[ev] w fun x w'=>x= .returned (.tuple #[.int .i64 er, .int .i64 at_])/\Below w.heap.size w w':=by
 rcases h with⟨q,rfl,b,c,d⟩ | ⟨rfl,rfl⟩
 ·exact KR q er at_ w b c he
 ·unfold AH
  split
  ·rename_i a;subst a;exact KS w
  ·exact Jf er w he
def Um (e:Ab)(l:List Int)(n er at_:Int)(e':Ab):Prop :=
 (er≠0/\Cn l.length (fun k=>(l.getD k 0).toNat) er at_ Gn/\n=0/\e'=e) \/
 (∃y,Cn l.length (fun k=>(l.getD k 0).toNat) 0 y (Zah l.length (fun k=>(l.getD k 0).toNat))/\at_= -1/\er=Jm 5 (e.AN (Zah l.length (fun k=>(l.getD k 0).toNat)))/\n=(if er=0 then e.Ah+1 else 0)/\e'=(e.AN (Zah l.length (fun k=>(l.getD k 0).toNat))).getD e)
theorem Up.Rf {N:Nat}{g f:AS}{d d':Ay}{e':Ab}{l:List Int}(h:Up B0 w' g d e l x f d' e')(ws:BD g d N e)(hl:l.length<=900000)(c:BB l):∃(n:Int) (ev:Value) (er at_:Int),x= .tuple #[.int .u64 n,ev]/\Pz B0 w' ev er at_/\Um e l n er at_ e'/\d'.down=false/\BD f d'.calm (N+1000000) e':=by
 rcases h with⟨p,y,q,a,b,rfl,i,j,k,rfl,rfl,rfl⟩ | ⟨y,er,a,b,rfl⟩
 ·exact⟨0,_,p,y,rfl,Zu ⟨q,rfl,i,j,k⟩,Zu ⟨a,b,rfl,rfl⟩,ws.down,ws.calm⟩
 ·have hlen:(AX 1 l 0).length<=900100:=by have:=(Zdu (op:=1) (data:=l) (n:=0) (by decide)).2;omega
  obtain⟨r1,r2,m,o⟩:=b.Rf ws hlen (fun r he=> .AN a c he);exact⟨_,_,er,-1,rfl,Zj ⟨rfl,rfl⟩,Zj ⟨y,a,rfl,r1,rfl,r2⟩,m,by rw[r2];exact o⟩
theorem IJ (w:World)(t P B R D bd bn N B0 S c:Nat)(ob:Option Nat)(e:Ab)(l:List Int)(h:Bd w t P B R D bd bn ob N e)(ok:Ak e)(AQ:AD e)(hN:N<=1000000000000)(hr:Al B0 w (.slice (some ⟨S,0,none⟩) l.length c) l)(hl:BB l)(dp:1<=l.length)(aw:l.length<=900000) :
  Calls prog 60 #[.pointer (some ⟨t,0,none⟩), .slice (some ⟨S,0,none⟩) l.length c,Zbl (-1) (-1) 0 0] w fun x w'=>∃f n er at_ e',x= .returned (.tuple #[.int .u64 n, .int .i64 er, .int .i64 at_])/\Um e l n er at_ e'/\Bd w' t P B R D bd bn f (N+1000000) e'/\As w ob f/\EF w w' P B R D bd bn ob:=by
 obtain⟨g,d,h1,ws⟩:=h.ex;have O:=h.ne;obtain⟨i5,cq,ag,aj,al⟩:=info_parts LL;have T:=Zz (Zq cq (Zq ag (Zq aj al)));obtain⟨fb,au⟩:∃fb,fb=w.heap.size:=⟨_,rfl⟩;obtain⟨n,hn⟩:∃n,n=l.length:=⟨_,rfl⟩;obtain⟨w1,X⟩:∃w1,w1=w.alloc (.cells #[.int .i64 (-1), .int .i64 (-1), .int .i64 0, .int .i64 0] 35):=⟨_,rfl⟩;have ar:Below w.heap.size w w1:=by rw[X];exact (Zk _ _).alloc (Zx _) _
 have du:=h1.pl;have E:=h1.ne
 have L:∀k,w.heap.size<=k->k≠P/\k≠D/\k≠bd/\k≠bn/\4<k:=fun k hk=>by
  have:=E.p;have:=E.d;have:=E.md;have:=E.mn;have:=E.l.gl;exact⟨by omega,by omega,by omega,by omega,by omega⟩
 have HA:=Zz (show AO w w1 t P B R D bd bn fb ob ob g d e (-1) (-1) 0 0 from by rw[X,au];exact AO.new (N:=N) h1 h.host h.err _ _ _ _ (Zk _ _))
 have ae:∃bh fr,w.heap[S]? =some (.cells bh 5 fr):=by
  rcases hr.2 with⟨x,_⟩ | ⟨y,cap,cur,x,_,hh,_⟩
  ·simp at x
  ·obtain rfl:S=y:=by simp only[Value.slice.injEq,Option.some.injEq,Addr.mk.injEq] at x;exact x.1.1
   exact⟨_,_,hh⟩
 have Z:=Zz (show Calls prog 34 #[.pointer (some ⟨t,0,none⟩),Zbl (-1) (-1) 0 0] w1 fun x w'=>x= .returned (.tuple #[])/\AO w w' t P B R D bd bn fb ob ob g d e (-1) (-1) 0 0/\∀k,k<n->w'.cell? ⟨S,k,none⟩=(bv l)[k]? from by
  refine (Zdm w1 t P B R D bd bn N ob g d e _ 0 0 HA.o.Fk ws HA.o.host).mono ?_;rintro x w' ⟨rfl,q1,q2⟩;obtain⟨bh,fr,ay⟩:=ae;obtain⟨pa,pc,dk,_⟩:=h1.dk.c;refine⟨rfl,HA.o.one O q1 q2,fun k hk=> ?_⟩;have e1:=ar.block S (Zaa ay);have e2:=q2.block S (Zaa (e1.trans ay)) (Zai ay dk.Au (by decide));exact (World.cell?_of_block (a:=⟨S,k,none⟩) (e2.trans e1)).trans (World.ownsRow.cellAt hr k (by omega)))
 have az:=Zz (show ∀G s xa H,AO w G t P B R D bd bn fb ob ob g d e (-1) (-1) 0 0->Below G.heap.size G s->Al (w.heap.size+1) s (.slice xa n H) l->Calls prog 101 #[.pointer (some ⟨P,0,none⟩), .slice xa n H] s fun x w'=>∃i ev er at_ y d' e' f,x= .returned (.tuple #[.int .u64 i,ev])/\Pz s.heap.size w' ev er at_/\Um e l i er at_ e'/\d'.down=false/\BD y d'.calm (N+1000000) e'/\AO w w' t P B R D bd bn fb ob f y d' e' (-1) (-1) 0 0/\Al (w.heap.size+1) w' (.slice xa n H) l from fun G s xa H A de q=>by
  have bj:=A.below de;rw[hn] at q ⊢;refine (Oe s P B R D bd bn N (w.heap.size+1) ob g d e l xa H bj.Fk ok AQ (ws.fit hN) q hl aw).mono ?_;rintro x w' ⟨v,y,d',e',f,rfl,q1,q2,q3,q4⟩;obtain⟨i,ev,er,at_,rfl,r2,r3,r4,r5⟩:=q1.Rf ws aw hl;refine⟨i,ev,er,at_,y,d',e',f,rfl,r2,r3,r4,r5,bj.call O q2 q3 q4,q.1,?_⟩;rcases q.2 with x | ⟨g5,cap,cur,x,hg,hh,r⟩
  ·exact Zu x
  ·obtain⟨f1,f2,f3,f4,_⟩:=L g5 (by omega)
   exact Zj ⟨g5,cap,cur,x,hg,q4.Cx hh ⟨f1,f2,f3,f4⟩ (by decide),r⟩)
 have Y:=Zz (show ∀s y d' e' f,d'.down=false->AO w s t P B R D bd bn fb ob f y d' e' (-1) (-1) 0 0->Calls prog 36 #[.pointer (some ⟨t,0,none⟩),Zbl (-1) (-1) 0 0] s fun x w'=>x= .returned (.tuple #[])/\AO w w' t P B R D bd bn fb ob f y d'.calm e' (-1) (-1) 0 0/\Ax s w' D from fun s y d' e' f V A=>by
  refine (Zc4 s t P B R D bd bn f y d' _ _ _ _ 0 0 A.Fk V A.host).mono ?_;rintro x w' ⟨rfl,q1,q2⟩;exact⟨rfl,A.one O q1 q2,q2⟩)
 have U:=Zz (Zq X (Zq au (Zq O (Zq L (Zq hn ar)))));have ei:1<=n:=by omega
 have eo:n<=900000:=by omega
 have dh:=Fj l
 have ax:Hid (∀u∈bv l,u.oneCell'=true):=Zz fun u hu=>by
  simp only[bv,List.mem_map] at hu;obtain⟨x,_,rfl⟩:=hu
  rfl
 rw[<-hn] at dh ⊢;unfold Zbl at Z Y ⊢;clear h ok AQ hN hr hl dp aw cq ag aj al h1 ws O X au hn ar du E L ae
 go_enter func60,ntmps60
 go_upto_region 1 with fail
 rw[<-U.o.2.1,<-U.o.1];obtain⟨⟨⟨⟨z0,z1⟩,z2⟩,z3⟩,z4⟩:=HA.o.cells
 go_upto_region 4 with (go_at_call 34;refine Z.o.mono ?_;rintro _ G ⟨rfl,A,J⟩;have H2:=Zz A;have dc:=Zz J;obtain⟨⟨⟨⟨y0,y1⟩,y2⟩,y3⟩,y4⟩:=A.cells;clear A J)
 have Q:∀(j:Nat) (u:Value),(bv l)[j]? =some u->G.cell? (Addr.add ⟨S,0,none⟩ j)=some u:=fun j u hj=>by
  have dj:j<n:=by
   have:=(List.getElem?_eq_some_iff.1 hj).1;omega
  rw[Zce,Nat.zero_add,dc.o j dj,hj]
 have cy:w.heap.size+1<=G.heap.size:=by have:=Zaa H2.o.fb;have:=U.o.2.1;omega
 have b9:=Zz (Zq Q cy);clear z0 z1 z2 z3 z4 Q cy
 go_upto_region 5 with (at_builtin;refine wpList_append_own _ rfl (.const (.slice none 0 0)) (.tmp 23) 112 rfl (w.heap.size+1) 5 i5 (.int .u8 0) 1 1 underlying112 T.o.1 T.o.2.1 T.o.2.2.1 T.o.2.2.2 rfl (by decide) (.slice none 0 0) 0 [] rfl (World.ownsRow_nil _ _ _ _) ⟨S,0,none⟩ n c (bv l) rfl (by omega) b9.o.1 ax.o (by unfold maxLen;omega) (by omega) b9.o.2 ?_;intro v1 s b M cr;clear cr;rw[Nat.zero_add,List.nil_append] at b;obtain⟨xa,H,rfl⟩:=Zaz b;have HO:=Zz (Zq b M);clear b M)
 have I:Below G.heap.size G s:=(Zk G.heap.size G).grown HO.o.2 (Zx _) (fun k h=>by cases h)
 have C:Al (w.heap.size+1) s (.slice xa n H) l:=by
  have:=HO.o.1;unfold Al;rw[<-U.o.2.2.2.2.1];exact this
 obtain⟨gg,dw,br,bw⟩:∃gg:Nat,xa=some ⟨gg,0,none⟩/\w.heap.size+1<=gg/\gg<s.heap.size:=by
  rcases C.2 with⟨x,x2⟩ | ⟨g5,cap,cur,x,hg,hh,r⟩
  ·have:=U.o.2.2.2.2.1;omega
  ·simp only[Value.slice.injEq] at x
   exact⟨g5,x.1,hg,Zaa hh⟩
 subst dw;have H3:=Zz (Zq I (Zq C (Zq br bw)));have x4:s.cell? ⟨t,1,none⟩=some (.pointer (some ⟨P,0,none⟩)):=cell_later I y4;clear I C br bw y0 y1 y2 y3 y4
 go_upto_region 6 with (go_at_call 101;refine (az.o G s _ H H2.o H3.o.1 H3.o.2.1).mono ?_;rintro _ w4 ⟨i,ev,er,at_,y,d',e',f,rfl,K,da,V,db,A,q⟩;have H4:=Zz (Zq A (Zq V (Zq db (Zq da (Zq K q)))));clear A V db da K q)
 have HG:=Zz (show w4.ownsRow (w.heap.size+1) 5 1 (.slice (some ⟨gg,0,none⟩) n H) n (bv l) from by
  have h5:=H4.o.2.2.2.2.2;unfold Al at h5;rw[<-U.o.2.2.2.2.1] at h5;exact h5)
 clear x4;go_wp2_with fail
 go_loopw [36] (fun iv wr=>∃(i:Nat) (zs:List Value),iv= .int .i64 i/\i<=n/\wr.ownsRow (w.heap.size+1) 5 1 (.slice (some ⟨gg,0,none⟩) n H) n zs/\Ax w4 wr gg) (fun iv _=>n - (intOf iv).toNat)
 case atStart =>
  exact⟨0,bv l,rfl,by omega,HG.o,Ax.refl _ _⟩
 case round =>
  obtain⟨j,zs,rfl,hi,b,F⟩:=hrel;by_cases h1:j<n
  ·have t0:=b.cellAt j (by omega)
   obtain⟨u,hu⟩:∃u,wr.cell? ⟨gg,j,none⟩=some u:=by
    have hz:=b.1;rw[t0];exact⟨_,ZZ (by omega)⟩
   have f0:=b.frozenAt j;have HW:=Zz (Zq b F);have i1:(j:Int)<(n:Int):=by omega
   have ep:n<=H/\H<=maxLen:=by
    rcases b.2 with⟨x,_⟩ | ⟨y,cap,cur,x,hg,hh,r1,r2,_⟩
    ·simp at x
    ·simp only[Value.slice.injEq] at x
     obtain⟨_,_,rfl⟩:=x;exact⟨r1,r2⟩
   clear t0 b F;go_wp2_with fail
   go_roundw
   case rel=>exact⟨j+1,_,by go_num,by omega,(HW.o.1.stored j (.int .u8 33)).1,HW.o.2.set j _⟩
   case measure=>simp[intOf];omega
  ·have i1:¬(j:Int)<(n:Int):=by omega
   have HW:=Zz (Zq b F);clear b F;have m:=H4.o.1;obtain⟨f1,f2,f3,f4,f5⟩:=U.o.2.2.2.1 gg (by have:=H3.o.2.2.1;omega)
   obtain⟨dy,ee,W⟩:∃cs fr,w4.heap[gg]? =some (.cells cs 5 fr):=by
    rcases HG.o.2 with⟨x,_⟩ | ⟨y,cap,cur,x,_,hh,_⟩
    ·simp at x
    ·obtain rfl:gg=y:=by simp only[Value.slice.injEq,Option.some.injEq,Addr.mk.injEq] at x;exact x.1.1
     exact⟨_,_,hh⟩
   have F:=HW.o.2;have ck:gg≠fb:=Zai W m.fb (by decide);have cm:gg≠t:=Zai W m.host.Au (by decide);have bp:0<w4.heap.size:=World.block_lt_of_cell? _ _ m.err;have dr:=m.Fk.pl
   have hM:AO w wr t P B R D bd bn fb ob f y d' e' (-1) (-1) 0 0 :=
    ⟨m.Fk.one8 F (Ne.symm f1) W f5,m.host.at_ (F.block t (Zaa m.host.Au) (Ne.symm cm)),(World.cell?_of_block (a:=⟨0,0,none⟩) (F.block 0 bp (by omega))).trans m.err,m.ef.one F (by have:=H3.o.2.2.1;omega),m.MY,(F.block fb (Zaa m.fb) (Ne.symm ck)).trans m.fb⟩
   have K:Pz s.heap.size wr ev er at_:=H4.o.2.2.2.2.1.Aj F.size (fun k hk av=>F.block k av (by have:=H3.o.2.2.2;omega));have HM:=Zz (Zq hM K);obtain⟨⟨⟨⟨x0,x1⟩,x2⟩,x3⟩,x4⟩:=hM.cells
   have dd:=Zz (show D<s.heap.size from by
    have h5:=HA.o.Fk.ne.d;have h6:=HA.o.Fk.pl;have h7:=H3.o.1.size;have h8:=H2.o.ef.size;have h9:=U.o.2.2.2.2.2.size;have eg:=H2.o.Fk.pl;omega)
   have bf:=Zz (show ∀wx,AO w wx t P B R D bd bn fb ob f y d'.calm e' (-1) (-1) 0 0->Ax wr wx D->Calls prog 40 #[ev] wx fun x w'=>x= .returned (.tuple #[.int .i64 er, .int .i64 at_])/\Below wx.heap.size wx w' from fun wx hx cu=>ZU (HM.o.2.Aj cu.size (fun k hk av=>cu.block k av (by have:=dd.o;omega))) hx.err);clear m f1 f2 f3 f4 f5 W F ck cm bp dr hM K
   go_wp2_with (first
    | (go_at_call 36;refine (Y.o _ _ _ _ _ H4.o.2.1 HM.o.1).mono ?_;rintro _ w5 ⟨rfl,A,ct⟩;have H5:=Zz (Zq A ct);clear A ct)
    | (go_at_call 40;refine (bf.o _ H5.o.1 H5.o.2).mono ?_;rintro _ w6 ⟨rfl,bo⟩;have H6:=Zz bo;clear bo))
   have z:=H5.o.1.below H6.o;refine bodyPost_ret (v:= .tuple #[.int .u64 i, .int .i64 er, .int .i64 at_]) (by simp[results,Tryz.results60,go_sem]) rfl ?_;exact⟨f,i,er,at_,e',rfl,H4.o.2.2.2.1,⟨⟨_,_,z.Fk,H4.o.2.2.1⟩,z.host,z.err,U.o.2.2.1⟩,z.MY,z.ef⟩
end Go.Proofs.YtgdcjccbdmcebaaGreatDoor
