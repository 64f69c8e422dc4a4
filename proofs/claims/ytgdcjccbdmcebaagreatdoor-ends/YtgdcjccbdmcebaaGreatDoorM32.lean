import Derived.Test.YtgdcjccbdmcebaaGreatDoorM31
set_option linter.unusedSimpArgs false
set_option linter.unusedVariables false
set_option maxHeartbeats 16000000
set_option maxRecDepth 100000
namespace Go.Proofs.YtgdcjccbdmcebaaGreatDoor
open Tryz
open Go.RowKit
attribute [local go_sem ↓] Go.wp_at_zero Go.wp_at_succ
variable {Kp:Int->World->Prop}
theorem Zbn {fn:Func}{p u v:Tmp}{ty:TypeId}(h:fn.results=#[.cell p ty, .tmp u, .tmp v])(tmps:Array Value)(P:Program)(w:World) :
  (results fn tmps).run P w =
   ((asAddr (tmps.getD p undef)).run P w).andThen fun a w₁=>((loadVar ty a).run P w₁).andThen fun x w₂=> .ok (.tuple #[x,tmps.getD u undef,tmps.getD v undef]) w₂:=by
 simp only[results,h];simp[Sem.run_bind,Result.andThen]
structure Ax (w w':World)(rb:Nat):Prop where
 os:w'.os=w.os
 tape:w'.tape=w.tape
 output:w'.output=w.output
 size:w.heap.size<=w'.heap.size
 block:∀k,k<w.heap.size->k≠rb->w'.heap[k]? =w.heap[k]?
theorem Ax.gf {w w':World}{rb P:Nat}(h:Ax w w' rb)(b:P<w.heap.size)(c:P≠rb):GF w w' P (fun _=>False) (fun k=>k=rb) :=
 ⟨h.size,fun k e _ d=>h.block k e d,fun o _=>World.cell?_of_block (a:=⟨P,o,none⟩) (h.block P b c),fun o=>World.frozen?_of_block (a:=⟨P,o,none⟩) (h.block P b c)⟩
theorem Cj.one {w w':World}{P B:Nat}{ob:Option Nat}{e:Ab}{rs:List Aq}{l:List Tm}{rb:Nat}(h:Cj w P B ob e rs l)(E:Ax w w' rb)(D:P≠rb)(F:∃cs fr,w.heap[rb]? =some (.cells cs 48 fr)):Cj w' P B ob e rs l:=by
 obtain⟨el,now,b,y,z⟩:=h.ex;have g:=E.gf b.pl D;obtain⟨s,v,i⟩:=F;have no:∀{k:Nat} {cs:Array Value} {t:TypeId} {fr:Nat×Nat},w.heap[k]? =some (.cells cs t fr)->t≠48->¬k=rb:=fun e d m=>Zai e i d m;obtain⟨G,H,x⟩:=b.kn;obtain⟨a,n,c,f,I,A,j⟩:=b.en;obtain⟨q,n',r,u,p,C⟩:=b.qu;refine⟨⟨el,now,⟨⟨G,H,x.gf g (fun h=>h) (fun k cs t fr _ e d=>no e (by rcases d with rfl | rfl | rfl | rfl<;>decide))⟩,⟨a,n,c,f,I,A.gf g (fun o _ _ h=>h) (fun k cs t fr _ e d _=>no e (by subst d;decide)),j⟩,⟨q,n',r,u,p,C.gf g (fun o _ _ h=>h) (fun k cs t fr _ e d=>no e (by subst d;decide))⟩,b.wh.gf g (fun o _ _ h=>h) (fun k cs t fr _ e d=>no e (by subst d;decide)) (fun k es c _ e m=>by subst m;rw[i] at e;cases e),(g.off 728 (fun h=>h)).trans b.lr,(g.off 729 (fun h=>h)).trans b.lt,(g.off 730 (fun h=>h)).trans b.sd,fun o=>(g.AE o).trans (b.fz o)⟩,y,z⟩,h.len,h.runs⟩
structure Dg (w:World)(rb:Nat)(a b c d:Int):Prop where
 Au:w.heap[rb]? =some (.cells #[.int .u64 a, .int .i64 b, .int .i64 c, .int .u64 d] 48 (0,0))
theorem Dg.cells {w:World}{rb:Nat}{a b c d:Int}(h:Dg w rb a b c d):((w.cell? ⟨rb,0,none⟩=some (.int .u64 a)/\w.cell? ⟨rb,1,none⟩=some (.int .i64 b))/\w.cell? ⟨rb,2,none⟩=some (.int .i64 c))/\w.cell? ⟨rb,3,none⟩=some (.int .u64 d):=by
 unfold World.cell?;rw[h.Au];exact⟨⟨⟨rfl,rfl⟩,rfl⟩,rfl⟩
theorem Dg.AE {w:World}{rb:Nat}{a b c d:Int}(h:Dg w rb a b c d):((w.frozen? ⟨rb,0,none⟩=false/\w.frozen? ⟨rb,1,none⟩=false)/\w.frozen? ⟨rb,2,none⟩=false)/\w.frozen? ⟨rb,3,none⟩=false:=by
 unfold World.frozen?;rw[h.Au];exact⟨⟨⟨rfl,rfl⟩,rfl⟩,rfl⟩
theorem Dg.set {w:World}{rb:Nat}{a b c d:Int}(h:Dg w rb a b c d)(x y z t:Int):Dg ((((w.setCell ⟨rb,0,none⟩ (.int .u64 x)).setCell ⟨rb,1,none⟩ (.int .i64 y)).setCell ⟨rb,2,none⟩ (.int .i64 z)).setCell ⟨rb,3,none⟩ (.int .u64 t)) rb x y z t:=by
 have e:=Zab (o:=0) h.Au (.int .u64 x);have f:=Zab (o:=1) e (.int .i64 y);have g:=Zab (o:=2) f (.int .i64 z);have i:=Zab (o:=3) g (.int .u64 t);exact⟨i⟩
theorem Dg.at_ {w w':World}{rb:Nat}{a b c d:Int}(h:Dg w rb a b c d)(e:w'.heap[rb]? =w.heap[rb]?):Dg w' rb a b c d:=⟨e.trans h.Au⟩
theorem Ax.Iq (w:World)(rb:Nat)(x y z t:Value):Ax w ((((w.setCell ⟨rb,0,none⟩ x).setCell ⟨rb,1,none⟩ y).setCell ⟨rb,2,none⟩ z).setCell ⟨rb,3,none⟩ t) rb :=
 ⟨rfl,rfl,rfl,by simp[World.setCell],fun k _ a=>(Zl _ ⟨rb,3,none⟩ _ k a).trans ((Zl _ ⟨rb,2,none⟩ _ k a).trans ((Zl _ ⟨rb,1,none⟩ _ k a).trans (Zl _ ⟨rb,0,none⟩ _ k a)))⟩
theorem Ax.below {w c w':World}{rb:Nat}(h:Ax c w' rb)(a:Below w.heap.size w c)(d:w.heap.size<=rb):Below w.heap.size w w':=⟨h.os.trans a.os,h.tape.trans a.tape,h.output.trans a.output,Zv a.size h.size,fun k b=>(h.block k (Zy b a.size) (by omega)).trans (a.block k b)⟩
theorem Fh {w:World}{rb:Nat}{a b c d:Int}(h:Dg w rb a b c d):(loadVar 48 ⟨rb,0,none⟩).run prog w= .ok (.agg #[.int .u64 a, .int .i64 b, .int .i64 c, .int .u64 d]) w:=by
 obtain⟨⟨⟨e,f⟩,g⟩,i⟩:=h.cells
 go_simp
theorem Ax.drew {w w':World}{rb:Nat}(h:Ax w w' rb):Ax w w'.drew rb:=⟨h.os,h.tape,h.output,h.size,h.block⟩
theorem Kg {α:Type}(l:List α)(i:Nat)(f g:α->α):(l.modify i f).modify i g=l.modify i (fun x=>g (f x)):=by
 apply List.ext_getElem?
 intro j;rw[List.getElem?_modify,List.getElem?_modify,List.getElem?_modify]
 cases l[j]? with
 | none=>rfl
 | some r =>
  show some _=some _
  congr 1
  by_cases c:i=j
  ·subst c;simp
  ·simp[c]
theorem Lh (e:Ab)(i k:Nat)(f g:AM->AM):((e.Af i k f).Af i k g).runs=(e.Af i k (fun s=>g (f s))).runs:=by
 show (e.runs.modify i _).modify i _=e.runs.modify i _;rw[Kg]
 congr 1
 funext r
 unfold Ag.Af;simp only[Ag.mk.injEq,true_and,and_true];exact Kg _ _ _ _
def Xg (r:Int)(k:Nat)(t tk:Int):Value:= .agg #[.int .u64 r, .int .i64 k, .int .i64 t, .int .u64 tk]
def KQ:Value:= .agg #[.int .u64 0, .int .i64 0, .int .i64 0, .int .u64 0]
def OZ (p:AZ)(t tk v:Int):Value:=if v=0 then .tuple #[Xg p.run p.node t tk, .bool true, .nilIface] else .tuple #[KQ, .bool false,AH v]
theorem LP (w:World)(P B:Nat)(ob:Option Nat)(e:Ab)(fn:Nat)(cs:Array Value)(h:BY w P B ob e)(wk:Ao e)(hk:ED w P B fn cs Kp)(jg:e.Ah<18446744073709551616)(jh:e.Ai<18446744073709551615) :
  Calls prog 129 #[.pointer (some ⟨P,4,none⟩), .func (.func fn) #[] cs] w fun x w'=>(e.Bk=none/\x= .returned (.tuple #[KQ, .bool false, .nilIface])/\Below w.heap.size w w')\/∃p t z e2 v w2 rb,e.Bk=some (p,t,z,e2)/\x= .returned (OZ p t z v)/\BX P B ob Kp e e2 v w2/\Ax w2 w' rb/\w.heap.size<=rb/\(∃cs fr,w2.heap[rb]? =some (.cells cs 48 fr)):=by
 obtain⟨rs,l,hx,ht⟩:=h;obtain⟨el,now,O,ck,b9⟩:=hx.ex;obtain⟨qa,qn,qc,qf,jk,hq⟩:=O.qu;have iz:=O.pl;obtain⟨w0,au⟩:∃w0,w0=w.alloc (.cells #[.int .u64 0, .int .i64 0, .int .i64 0, .int .u64 0] 48):=⟨_,rfl⟩;obtain⟨rb,br⟩:∃rb,rb=w.heap.size:=⟨_,rfl⟩;have aj:Below w.heap.size w w0:=by rw[au];exact (Zk _ _).alloc (Zx _) _
 have Y:w0.heap[rb]? =some (.cells #[.int .u64 0, .int .i64 0, .int .i64 0, .int .u64 0] 48 (0,0)):=by rw[au,br];exact heap_alloc_new w _
 have eu:=hq.below aj;have c2:=eu.c2;have HE:=Zz (EL w0 P e.queue.length c2)
 cases S:e.queue with
 | nil =>
  rw[S] at HE;have du:Hid (Calls prog 199 #[.pointer (some ⟨P,8,none⟩)] w0 fun e w'=>e= .returned (.bool true)/\w'=w0):=HE;have hn:=QM S;have HR:=Zz (Zq aj hn);have u:=Zz (Zq br au);have ag:=Zz (Dg.mk Y);obtain⟨⟨⟨f0,f1⟩,f2⟩,f3⟩:=ag.o.AE;obtain⟨⟨⟨z0,z1⟩,z2⟩,z3⟩:=ag.o.cells;clear hx ht O ck b9 hq eu c2 S hk aj hn br au Y
  go_enter func129,ntmps129
  go_upto_region 1 with fail
  rw[<-u.o.1,<-u.o.2];go_wp2_with (go_at_call 199;refine du.o.mono ?_;rintro _ w1 ⟨rfl,fc⟩;rw[fc])
  (try simp only[Exit.inBlock,Exit.then])
  have T:=Fh (ag.o.set 0 0 0 0);refine bodyPost_ret (v:= .tuple #[KQ, .bool false, .nilIface]) (by rw[Zbn rfl];simp[Result.andThen,asAddr,T,KQ]) rfl ?_;exact Zu ⟨HR.o.2,rfl,(Ax.Iq w0 rb _ _ _ _).below HR.o.1 (Nat.le_of_eq u.o.1.symm)⟩
 | cons p q =>
  rw[S] at HE;have du:Hid (Calls prog 199 #[.pointer (some ⟨P,8,none⟩)] w0 fun e w'=>e= .returned (.bool false)/\w'=w0):=HE;obtain⟨i,hi,gi,I,bw,gd,D⟩:=TF wk S;have d:=Zz (Zq hi (Zq gi (Zq I (Zq bw (Zq gd (Zq D S))))));have HX:=Zz (Zq hx ht);have HR:=Zz aj;have u:=Zz (Zq br au);have ag:=Zz (Dg.mk Y);have HK:=Zz (hk.2 w0 aj);have fy:=hk.1 w0;have aw:=Zz O.pb;have j4:=c2;rw[S] at c2;clear hx ht O ck b9 hq eu S hk aj br au Y hi gi I bw gd D iz j4
  go_enter func129,ntmps129
  go_upto_region 1 with fail
  rw[<-u.o.1,<-u.o.2]
  go_upto_region 4 with (first
   | (go_at_call 199;refine du.o.mono ?_;rintro _ w1 ⟨rfl,fc⟩;rw[fc])
   | (refine HK.o.mono ?_;rintro _ w1 ⟨v,rfl,hn,gm⟩;have HN:=Zz (Zq hn gm);clear hn gm))
  have A:=Zz (ag.o.at_ (HN.o.1.block rb _ _ _ (by have:=aw.o;have:=u.o.1;omega) ag.o.Au (by unfold Rl;simp)));have az:=(HX.o.1.below HR.o).side HN.o.1;by_cases hv:v=0
  ·subst hv
   rw[Zaw];obtain⟨el,now,O,ck,b9⟩:=az.ex;obtain⟨j8,jb,j9,ja,gw,de⟩:=O.qu;rw[d.o.2.2.2.2.2.2] at de;have fj:=Zz (TG w1 P B jb j9 ja j8 gw q p de);have ae:=Zz (Zq O (Zq ck (Zq b9 de)));have F:=Zz az;clear O ck b9 de az fy c2
   go_upto_region 7 with (go_at_call 200;refine fj.o.mono ?_;rintro _ w2 ⟨rfl,hp⟩;have ic:=Zz hp;clear hp)
   obtain⟨J,dj⟩:∃J,J=w2.alloc (.cells #[.int .u64 p.run, .int .i64 p.node] 274):=⟨_,rfl⟩;obtain⟨sb,dh⟩:∃sb,sb=w2.heap.size:=⟨_,rfl⟩;rw[<-dj,<-dh];have cq:Below w2.heap.size w2 J:=by rw[dj];exact (Zk _ _).alloc (Zx _) _
   have gu:Bv J sb p.run p.node:=by rw[dj,dh];exact heap_alloc_new w2 _
   have H3:=Zz (show Cj J P B ob { e with queue:=q } rs l/\KF w1 J P B ob/\Bv J sb p.run p.node/\Dg J rb 0 0 0 0/\rb<sb by
    obtain⟨m1,m2,m3,m4⟩:=ae.o;obtain⟨f',jl,k1,k2⟩:=ic.o;have cy:=KF.QD m4 k2 ob;have j5:=Zaa A.o.Au;refine⟨⟨⟨el,now,(m1.queue (by rw[d.o.2.2.2.2.2.2];exact m4) k2 ⟨_,_,_,_,_,k1⟩).below cq,m2,m3.same rfl (fun _ _=>⟨rfl,rfl⟩)⟩,F.o.len,F.o.runs⟩,cy.trans (KF.Ae P B ob cq) (As.refl _ _),gu,?_,by have:=cy.size;omega⟩;have e1:w2.heap[rb]? =w1.heap[rb]? :=cy.block rb j5 (by have:=aw.o;have:=u.o.1;omega) (Zj ⟨_,_,_,A.o.Au,by decide,by decide,by decide,by decide,by decide,fun x=>absurd x (by decide)⟩);exact A.o.at_ ((cq.block rb (by have:=cy.size;omega)).trans e1))
   have je:=Zz dh;clear dj cq gu dh;obtain⟨b,X⟩:∃b,b=(Am rs i).b:=⟨_,rfl⟩;obtain⟨ng,dc⟩:∃ng,ng=(Am rs i).ng:=⟨_,rfl⟩;obtain⟨n,hn⟩:∃n,n=(Am rs i).ns.length:=⟨_,rfl⟩;obtain⟨r,hr⟩:∃r,r=Am rs i:=⟨_,rfl⟩
   have ig:AW J B r/\Br r (e.at_ i)/\(∀m,Calls prog 157 #[.pointer (some ⟨P,4,none⟩), .int .u64 p.run] (J.drewN m) fun x w'=>x= .returned (.pointer (some ⟨b,0,none⟩))/\∃q,w'=(J.drewN m).drewN q):=by
    obtain⟨dw,U,ee,_,_⟩:=H3.o.1.ex;obtain⟨ka,kc,da⟩:=ee.kn;have iw:i<rs.length:=by rw[F.o.len];exact d.o.1
    refine⟨by rw[hr];exact da.runs i iw,by rw[hr];exact F.o.runs i d.o.1,fun m=> ?_⟩;have:=GK (J.drewN m) P B kc ka rs p.run (da.below (below_drewN J m));rw[JO F.o.len F.o.runs,d.o.2.2.2.2.1] at this;refine this.mono ?_;rintro x w' ⟨rfl,rfl⟩;exact⟨by rw[X];rfl,0,rfl⟩
   obtain⟨ay,ei,fv⟩:=ig;have gy:=Zz fv;obtain⟨⟨t0,_,t2⟩,_⟩:=ay.CP;obtain⟨_,_,iy,_,cu,_⟩:=ay.Bi;have ie:=ay.Bs;have db:p.node<r.ns.length:=by rw[ei.len];exact d.o.2.1
   have dd:n=r.ns.length:=by rw[hn,hr]
   rw[<-hr] at X dc;rw[<-X,<-dc,<-dd] at t2;rw[<-dd] at iy ie db;have jd:(p.node:Int)<(n:Int):=by omega
   obtain⟨v0,v1⟩:=H3.o.2.2.1.cells;have c:=Zz (Zq ay (Zq ei (Zq X (Zq dc (Zq dd (Zq hr cu))))))
   generalize r.nc=nc at *
   clear ay ei fv X dc hn dd hr cu t0
   go_quiet ((go_at_call 157;refine Calls.quiet_of (gy.o _)))
   go_upto_region 8 with fail
   have cr:Below J.heap.size J (J.drewN nq):=below_drewN J nq;have H4:=Zz (Zq (H3.o.1.below cr) (Zq (c.o.1.below cr) (Zq cr (show Bv (J.drewN nq) sb p.run p.node/\Dg (J.drewN nq) rb 0 0 0 0 from⟨H3.o.2.2.1,⟨H3.o.2.2.2.1.Au⟩⟩))));clear cr t2 v0 v1
   generalize J.drewN nq=w4 at *
   obtain⟨d0,dz⟩:w4.cell? ⟨P,729,none⟩=some (.int .u64 e.Ai)/\w4.frozen? ⟨P,729,none⟩=false:=by
    obtain⟨_,_,O,_,_⟩:=H4.o.1.ex;exact⟨O.lt,O.fz 729⟩
   have ew:IntKind.u64.wrap (e.Ai+1)=e.Ai+1:=by have:=wk.YO;rw[IntKind.wrap_u64];omega
   go_upto_region 9 with fail
   obtain⟨z,ey⟩:∃z,z=e.Ai+1:=⟨_,rfl⟩;rw[<-ey];obtain⟨Z,cm⟩:∃Z,Z=w4.setCell ⟨P,729,none⟩ (.int .u64 z):=⟨_,rfl⟩;rw[<-cm]
   have H5:=Zz (show Cj Z P B ob { e with queue:=q,Ai:=z } rs l/\AW Z B r/\KF w1 Z P B ob/\Bv Z sb p.run p.node/\Dg Z rb 0 0 0 0 by
    obtain⟨x1,x2,x3,x4,x5⟩:=H4.o;obtain⟨dw,U,ee,m2,m3⟩:=x1.ex;have X:∀k,k≠P->Z.heap[k]? =w4.heap[k]? :=fun k hk=>by rw[cm];exact Zl w4 ⟨P,729,none⟩ _ k hk
    have im:=aw.o;have jj:P<w1.heap.size:=by have:=F.o.ex;obtain⟨_,_,O,_⟩:=this;exact O.pl
    have eg:=ee.num 729 z e.Ah z e.At (Zj (Zu ⟨rfl,rfl,rfl,rfl⟩));rw[<-cm] at eg;refine⟨⟨⟨dw,U,eg,m2,m3.same rfl (fun _ _=>⟨rfl,rfl⟩)⟩,x1.len,x1.runs⟩,?_,?_,(X sb (by have:=H3.o.2.2.2.2;have:=u.o.1;omega)).trans x4,x5.at_ (X rb (by have:=u.o.1;omega))⟩
    ·obtain⟨ka,kc,da⟩:=eg.kn
     have:=da.runs i (by rw[F.o.len];exact d.o.1);rw[<-c.o.2.2.2.2.2.1] at this;exact this
    ·have:=KF.Bt w4 P B 729 ob (.int .u64 z) (by omega)
     rw[<-cm] at this;exact (H3.o.2.1.trans (KF.Ae P B ob x3) (As.refl _ _)).trans this (As.refl _ _))
   have ax:=Zz ey;clear d0 dz ew cm ey;obtain⟨tr,ez⟩:∃tr,tr=((e.at_ i).at_ p.node).tries:=⟨_,rfl⟩
   have G:((r.at_ p.node).tries=tr/\(r.at_ p.node).cl=(e.at_ i).fl.cl p.node/\(r.at_ p.node).be=(e.at_ i).fl.be p.node)/\AJ (e.at_ i).fl p.node/\(0<=tr/\tr<=5)/\(e.at_ i).st=1:=by
    have h1:=wk.Bh d.o.1 d.o.2.1 (by rw[d.o.2.2.2.1];omega);have I:=wk.runs i d.o.1;have C:=I.fl.node p.node (by rw[<-I.len];exact d.o.2.1);have q1:=c.o.2.1.live h1 p.node d.o.2.1;have q2:=c.o.2.1.nd p.node d.o.2.1;have bw:=I.steps p.node d.o.2.1;have:=bw.tr0;have:=bw.trB;have:=C.bu2;exact⟨⟨by rw[ez];exact q2.2,q1.cl,q1.be⟩,C,by omega,h1⟩
   have E:=Zz G;have fs:=Zz ez
   obtain⟨y0,y1,y2,y3,y4,y5,y6,y7,y8,y9⟩:=(show NdC Z ng (p.node * 10) (r.at_ p.node) by
    have:=H5.o.2.1.nd (k:=p.node) (by rw[<-c.o.2.2.2.2.1];exact db);rw[<-c.o.2.2.2.1] at this;exact this)
   rw[E.o.1.1] at y8;rw[E.o.1.2.1] at y1;rw[E.o.1.2.2] at y2;have ct:∀j,Z.frozen? ⟨ng,j,none⟩=false:=fun j=>by rw[c.o.2.2.2.1];exact H5.o.2.1.AE j
   have g7:=ct (p.node * 10+7);have g8:=ct (p.node * 10+8);have g9:=ct (p.node * 10+9);obtain⟨cl,ep⟩:∃cl,cl=(e.at_ i).fl.cl p.node:=⟨_,rfl⟩;obtain⟨be,eo⟩:∃be,be=(e.at_ i).fl.be p.node:=⟨_,rfl⟩;rw[<-ep] at y1;rw[<-eo] at y2;have K:=Zz (Zq ep eo);have ew:wrap64 (tr+1)=tr+1:=by have:=G.2.2.1;unfold wrap64;omega
   have d5:Z.cell? ⟨P,729,none⟩=some (.int .u64 z):=by
    obtain⟨_,_,O,_,_⟩:=H5.o.1.ex;exact O.lt
   have iq:¬P=ng:=by have:=aw.o;have:=c.o.2.2.2.2.2.2;have:=c.o.2.2.2.1;omega
   have jf:¬ng=P:=fun x=>iq x.symm;clear ct G ez ep eo y0 y3 y4 y5 y6
   go_upto_region 12 with fail
   obtain⟨H,fe⟩:∃H,H=((Z.setCell ⟨ng,p.node * 10+7,none⟩ (.int .i64 3)).setCell ⟨ng,p.node * 10+8,none⟩ (.int .i64 (tr+1))).setCell ⟨ng,p.node * 10+9,none⟩ (.int .u64 z):=⟨_,rfl⟩;rw[<-fe];obtain⟨r',ar⟩:∃r',r'=r.BE p.node (fun n=>{ n with st:=3,tries:=tr+1,tok:=z }):=⟨_,rfl⟩;obtain⟨ec,M⟩:∃ec,ec=({ e with queue:=q,Ai:=z }:Ab).Af i p.node (fun s=>{ s with st:=3,tries:=tr+1,tok:=z }):=⟨_,rfl⟩
   have H6:=Zz (show Cj H P B ob ec (rs.set i r') l/\AW H B r'/\KF w1 H P B ob/\Bv H sb p.run p.node/\Dg H rb 0 0 0 0 by
    obtain⟨x1,x2,x3,x4,x5⟩:=H5.o;have al:p.node<r.ns.length:=by rw[<-c.o.2.2.2.2.1];exact db
    have s1:=x2.FQ (k:=p.node) (j:=7) (f:=fun n=>{ n with st:=3 }) (v:= .int .i64 3) al (by omega) rfl ⟨rfl,rfl,rfl⟩;have s2:=s1.FQ (k:=p.node) (j:=8) (f:=fun n=>{ n with tries:=tr+1 }) (v:= .int .i64 (tr+1)) (by rw[Aq.AU];exact al) (by omega) rfl ⟨rfl,rfl,rfl⟩;have s3:=s2.FQ (k:=p.node) (j:=9) (f:=fun n=>{ n with tok:=z }) (v:= .int .u64 z) (by rw[Aq.AU,Aq.AU];exact al) (by omega) rfl ⟨rfl,rfl,rfl⟩;have hf:=((Du.Ey Z r.b r.ng (p.node * 10+7) (.int .i64 3)).trans (Du.Ey _ r.b r.ng (p.node * 10+8) (.int .i64 (tr+1)))).trans (Du.Ey _ r.b r.ng (p.node * 10+9) (.int .u64 z));have e3:r'=((r.BE p.node (fun n=>{ n with st:=3 })).BE p.node (fun n=>{ n with tries:=tr+1 })).BE p.node (fun n=>{ n with tok:=z }):=by rw[ar,Aq.Fu,Aq.Fu]
    have s3:AW (((Z.setCell ⟨r.ng,p.node * 10+7,none⟩ (.int .i64 3)).setCell ⟨r.ng,p.node * 10+8,none⟩ (.int .i64 (tr+1))).setCell ⟨r.ng,p.node * 10+9,none⟩ (.int .u64 z)) B r':=by rw[e3];exact s3
    rw[<-c.o.2.2.2.1,<-fe] at hf s3
    have hX:=x1.BE (e':=ec) (i:=i) (k:=p.node) (f:=fun n=>{ n with st:=3,tries:=tr+1,tok:=z }) (g:=fun s=>{ s with st:=3,tries:=tr+1,tok:=z }) d.o.1 E.o.2.2.2 d.o.2.1 rfl rfl (by
     have:=c.o.2.1.live E.o.2.2.2 p.node d.o.2.1;rw[c.o.2.2.2.2.2.1] at this;exact⟨rfl,this.bu,this.cl,this.be,this.ba,this.ca,this.ji,this.af⟩) (by rw[<-c.o.2.2.2.2.2.1,<-ar];exact s3) (by rw[<-c.o.2.2.2.2.2.1,<-c.o.2.2.2.1];exact hf) (by rw[M]) (by rw[M];rfl) (by rw[M];rfl) (by rw[M];rfl) (by rw[M];rfl) (by rw[M];rfl)
    rw[<-c.o.2.2.2.2.2.1,<-ar] at hX;obtain⟨cg,bj,_⟩:=x2.Bi;refine⟨hX.1,s3,x3.trans hX.2.2 (As.refl _ _),(hf.block sb (Zaa x4) (Zai x4 x2.top (by decide)) (by rw[c.o.2.2.2.1];exact Zai x4 bj (by decide))).trans x4,x5.at_ (hf.block rb (Zaa x5.Au) (Zai x5.Au x2.top (by decide)) (by rw[c.o.2.2.2.1];exact Zai x5.Au bj (by decide)))⟩)
   have fm:=Zz (show r'.ng=ng/\r'.b=b/\p.node<r'.ns.length/\r'.at_ p.node={ r.at_ p.node with st:=3,tries:=tr+1,tok:=z } by
    have al:p.node<r.ns.length:=by rw[<-c.o.2.2.2.2.1];exact db
    rw[ar];refine⟨c.o.2.2.2.1.symm,c.o.2.2.1.symm,by rw[Aq.AU];exact al,?_⟩;rw[Aq.Ca _ _ _ _ al,if_pos rfl])
   have bh:∀wx w',Below H.heap.size H wx->PF wx w' P B Ck->(((((w'.cell? ⟨sb,0,none⟩=some (.int .u64 p.run)/\w'.cell? ⟨sb,1,none⟩=some (.int .i64 p.node))/\w'.cell? ⟨ng,p.node * 10+1,none⟩=some (.int .i64 cl))/\w'.cell? ⟨ng,p.node * 10+2,none⟩=some (.int .i64 be))/\w'.cell? ⟨ng,p.node * 10+8,none⟩=some (.int .i64 (tr+1)))/\w'.cell? ⟨ng,p.node * 10+9,none⟩=some (.int .u64 z))/\Bv w' sb p.run p.node/\Dg w' rb 0 0 0 0:=fun wx w' X hf=>by
    obtain⟨x1,x2,x3,x4,x5⟩:=H6.o;obtain⟨cg,bj,_,_,cu,_⟩:=x2.Bi;obtain⟨n1,n2,n3,n4⟩:=fm.o;have G:=x2.nd n3;rw[n4] at G;rw[n1] at bj G cu
    have stay:∀k cs t fr,H.heap[k]? =some (.cells cs t fr)->t≠288->k≠P->w'.heap[k]? =H.heap[k]? :=fun k cs t fr e ht hk=>by
     have e1:=X.block k (Zaa e);exact (hf.other (e1.trans e) ht hk).trans e1
    have im:=aw.o;have h1:=stay sb _ _ _ x4 (by decide) (by have:=H3.o.2.2.2.2;have:=u.o.1;omega);have h2:=stay ng _ _ _ bj (by decide) (by omega);have h3:=stay rb _ _ _ x5.Au (by decide) (by have:=u.o.1;omega);have hs:Bv w' sb p.run p.node:=h1.trans x4;have hc:=hs.cells;refine⟨⟨⟨⟨⟨hc,?_⟩,?_⟩,?_⟩,?_⟩,hs,x5.at_ h3⟩
    ·rw[K.o.1,<-E.o.1.2.1];exact (World.cell?_of_block (a:=⟨ng,p.node * 10+1,none⟩) h2).trans G.c1
    ·rw[K.o.2,<-E.o.1.2.2];exact (World.cell?_of_block (a:=⟨ng,p.node * 10+2,none⟩) h2).trans G.c2
    ·exact (World.cell?_of_block (a:=⟨ng,p.node * 10+8,none⟩) h2).trans G.c8
    ·exact (World.cell?_of_block (a:=⟨ng,p.node * 10+9,none⟩) h2).trans G.c9
   have av:=Zz bh
   have dp:∀wx,Below H.heap.size H wx->Calls prog 198 #[.pointer (some ⟨P,4,none⟩), .agg #[.int .u64 p.run, .int .i64 p.node, .int .i64 1], .int .i64 cl] wx fun x w'=>x= .returned (.tuple #[])/\∃y l1,Cb l (Bb p.run p.node 1) y l1/\Bf w' P B Ck now (l1++[⟨Bb p.run p.node 1,Za2 now (now+cl),e.timers+1⟩])/\PF wx w' P B Ck:=fun wx X=>by
    obtain⟨x1,_⟩:=H6.o;obtain⟨dw,U,O,m2,_⟩:=x1.ex
    have gq:U=now:=by
     have e1:ec.time=e.time:=by rw[M];rfl
     have:=ae.o.2.1;omega
    subst gq;have:=wk.Ui i d.o.1;have:=wk.RD i d.o.1;have:=wk.IQ d.o.1;have:=d.o.2.1;have C:=E.o.2.1;rw[d.o.2.2.1];exact ET wx P B U l (Bb (e.at_ i).id p.node 1) (e.at_ i).id p.node 1 cl e.timers (O.wh.Aj X) (FN (by omega) (by omega) (by omega) (by omega) (by decide) (by decide)) (by rw[K.o.1];have:=C.Rt;omega) (by rw[K.o.1];have:=C.cl2;omega) (by have:=HX.o.2.Bs wk;omega)
   have fq:=Zz dp;obtain⟨⟨⟨⟨⟨v0,v1⟩,c1⟩,c2⟩,c8⟩,c9⟩:=(bh H H (Zk _ _) (PF.refl _ _ _ _)).1;have Q:=Zz (Zq ar M);clear y1 y2 y7 y8 y9 g7 g8 g9 ew d5 bh dp fe ar M
   go_region_held3 (fun w'=>(w'.cell? ⟨sb,0,none⟩=some (.int .u64 p.run)/\w'.cell? ⟨sb,1,none⟩=some (.int .i64 p.node))/\w'.cell? ⟨ng,p.node * 10+1,none⟩=some (.int .i64 cl)) (go_keep) ((go_at_call 198;refine (fq.o H.drew ((Zk _ _).drew)).mono ?_;rintro _ w7 ⟨rfl,y,l1,L,N,V⟩;have gz:=Zz (Zq L (Zq N V));have y:=(av.o H.drew w7 ((Zk _ _).drew) V).1;have y0:=y.1.1.1.1.1;have y1:=y.1.1.1.1.2;have y2:=y.1.1.1.2;clear L N V y))
   go_upto_region 13 with fail
   obtain⟨L,N,V⟩:=gz.o;obtain⟨l2,R⟩:∃l2,l2=l1++[⟨Bb p.run p.node 1,Za2 now (now+cl),e.timers+1⟩]:=⟨_,rfl⟩;rw[<-R] at N
   have ft:∀wx,Below w7.heap.size w7 wx->Calls prog 148 #[.pointer (some ⟨P,4,none⟩), .agg #[.int .u64 p.run, .int .i64 p.node], .int .i64 be] wx fun x w'=>x= .returned (.tuple #[])/\(∃l3,((be=0/\l3=l2)\/(be≠0/\∃y l4,Cb l2 (Bb p.run p.node 2) y l4/\l3=l4++[⟨Bb p.run p.node 2,Za2 now (now+be),e.timers+1+1⟩]))/\Bf w' P B Ck now l3)/\PF wx w' P B Ck:=fun wx X=>by
    have:=wk.Ui i d.o.1;have:=wk.RD i d.o.1;have:=wk.IQ d.o.1;have:=d.o.2.1;have C:=E.o.2.1;have h1:=L.len;have h2:=HX.o.2.Bs wk;rw[d.o.2.2.1];rw[d.o.2.2.1] at R;exact Lt wx P B now l2 (e.at_ i).id p.node be (e.timers+1) (N.Aj X) (FN (by omega) (by omega) (by omega) (by omega) (by decide) (by decide)) (by rw[K.o.2];exact C.Rr) (by rw[K.o.2];have:=C.be2;omega) (by rw[R,ZX,List.length_singleton];omega)
   have gx:=Zz ft;obtain⟨⟨⟨⟨⟨v0,v1⟩,c1⟩,c2⟩,c8⟩,c9⟩:=(av.o H.drew w7 ((Zk _ _).drew) V).1;have bp:PF H w7 P B Ck:=(PF.Ae ((Zk _ _).drew)).trans V;have fh:=Zz (Zq L (Zq N (Zq bp R)));have fg:Hid (∀w',PF w7 w' P B Ck->(((((w'.cell? ⟨sb,0,none⟩=some (.int .u64 p.run)/\w'.cell? ⟨sb,1,none⟩=some (.int .i64 p.node))/\w'.cell? ⟨ng,p.node * 10+1,none⟩=some (.int .i64 cl))/\w'.cell? ⟨ng,p.node * 10+2,none⟩=some (.int .i64 be))/\w'.cell? ⟨ng,p.node * 10+8,none⟩=some (.int .i64 (tr+1)))/\w'.cell? ⟨ng,p.node * 10+9,none⟩=some (.int .u64 z))/\Bv w' sb p.run p.node/\Dg w' rb 0 0 0 0):=Zz (fun w' hf=>av.o H w' (Zk _ _) (bp.trans hf));clear L N V ft bp R y0 y1 y2
   go_region_held3 (fun w'=>(w'.cell? ⟨sb,0,none⟩=some (.int .u64 p.run)/\w'.cell? ⟨sb,1,none⟩=some (.int .i64 p.node))/\w'.cell? ⟨ng,p.node * 10+2,none⟩=some (.int .i64 be)) (go_keep) ((go_at_call 148;refine (gx.o w7.drew ((Zk _ _).drew)).mono ?_;rintro _ w8 ⟨rfl,bo,bf⟩;have fi:=Zz (Zq bo bf);have y:=(fg.o w8 ((PF.Ae ((Zk _ _).drew)).trans bf)).1;have y0:=y.1.1.1.1.1;have y1:=y.1.1.1.1.2;have y2:=y.1.1.2;clear bo bf y))
   go_upto_region 14 with fail
   have dy:=fg.o w8 ((PF.Ae ((Zk _ _).drew)).trans fi.o.2);have W:=Zz dy.2.2;obtain⟨⟨⟨⟨⟨v0,v1⟩,c1⟩,c2⟩,c8⟩,c9⟩:=dy.1;obtain⟨⟨⟨f0,f1⟩,f2⟩,f3⟩:=W.o.AE;obtain⟨⟨⟨z0,z1⟩,z2⟩,z3⟩:=W.o.cells;clear dy y0 y1 y2
   go_region
   all_goals
    go_wp2_with fail
    (try simp only[Exit.inBlock,Exit.then])
    have T:=Fh (w:=((((w8.setCell ⟨rb,0,none⟩ (.int .u64 p.run)).setCell ⟨rb,1,none⟩ (.int .i64 p.node)).setCell ⟨rb,2,none⟩ (.int .i64 (tr+1))).setCell ⟨rb,3,none⟩ (.int .u64 z)).drew) ((W.o.set p.run p.node (tr+1) z).at_ rfl);refine bodyPost_ret (v:= .tuple #[Xg p.run p.node (tr+1) z, .bool true, .nilIface]) (by rw[Zbn rfl];simp[Result.andThen,asAddr,T,Xg]) rfl ?_;obtain⟨L,N,bp,R⟩:=fh.o;obtain⟨⟨l3,bo,j7⟩,bf⟩:=fi.o;have dr:PF H w8 P B Ck:=(bp.trans (PF.Ae ((Zk _ _).drew))).trans bf
    have j6:ec.time=(now:Int):=by
     have e1:ec.time=e.time:=by rw[Q.o.2];rfl
     rw[e1];exact ae.o.2.1
    have iu:=H6.o.1.KU dr j7 j6;have C:=E.o.2.1;have jc:=C.Rr;have gb:=C.Rt
    have gh:Cj w8 P B ob (Ma e q i p.node) (rs.set i r') l3:=by
     refine iu.times (i:=i) (k:=p.node) (g:=fun s=>{ s with fin:=Zak e.time ((e.at_ i).fl.cl p.node),BN:=e.timers+1,sign:=if (e.at_ i).fl.be p.node > 0 then Zak e.time ((e.at_ i).fl.be p.node) else 0,Bc:=if (e.at_ i).fl.be p.node > 0 then e.timers+2 else s.Bc }) ?_ (fun _=>⟨rfl,rfl,rfl⟩) ?_ (by rw[Q.o.2];rfl) (by rw[Q.o.2];rfl) (by rw[Q.o.2];rfl) ?_ (by rw[Q.o.2];rfl)
     ·rw[Q.o.2]
      show i<(Ab.AG _ i _).runs.length;rw[Zbi];exact d.o.1
     ·rw[Q.o.2,Lh,ax.o,fs.o]
      rfl
     ·rw[Q.o.2,ax.o];rfl
    have gv:Be (Ma e q i p.node) l3:=by
     have e1:Za2 now (now+cl)=Zak e.time ((e.at_ i).fl.cl p.node):=by rw[ae.o.2.1,<-K.o.1];exact Zc6 (by rw[K.o.1];exact gb)
     have fw:Bj l2:=N.apart;rw[R,d.o.2.2.1,e1] at fw;rw[d.o.2.2.1] at L;refine Xl wk d.o.1 d.o.2.1 d.o.2.2.2.1 HX.o.2 ae.o.1.wh.apart L fw ?_;rw[R,d.o.2.2.1,e1,K.o.2] at bo;rcases bo with⟨q1,q2⟩ | ⟨q1,y,l4,q2,q3⟩
     ·exact Zu ⟨q1,q2⟩
     ·refine Zj ⟨by omega,y,l4,q2,?_⟩
      have e2:Za2 now (now+(e.at_ i).fl.be p.node)=Zak e.time ((e.at_ i).fl.be p.node):=by rw[ae.o.2.1];exact Zc6 (by omega)
      rw[q3,e2];have e3:e.timers+1+1=e.timers+2:=by omega
      rw[e3]
    have D:=d.o.2.2.2.2.2.1;rw[<-fs.o,<-ax.o] at D;refine Zj ⟨p,_,_,_,0,w8,rb,D,rfl,BX.ok HN.o.2 gh gv ((H6.o.2.2.1.trans (KF.DN dr ob) (As.refl _ _))) (As.refl _ _),(Ax.Iq w8 rb _ _ _ _).drew,Nat.le_of_eq u.o.1.symm,⟨_,_,W.o.Au⟩⟩
  ·rw[Zan hv]
   have HV:=Zz hv;have F:=Zz az;obtain⟨⟨⟨f0,f1⟩,f2⟩,f3⟩:=A.o.AE;obtain⟨⟨⟨z0,z1⟩,z2⟩,z3⟩:=A.o.cells;clear hv az fy c2;go_wp2_with fail
   (try simp only[Exit.inBlock,Exit.then])
   have T:=Fh (A.o.set 0 0 0 0);refine bodyPost_ret (v:= .tuple #[KQ, .bool false, .iface 32 (.int .i64 v)]) (by rw[Zbn rfl];simp[Result.andThen,asAddr,T,KQ]) rfl ?_;refine Zj ⟨p,_,_,_,v,w1,rb,d.o.2.2.2.2.2.1,?_,BX.err HV.o HN.o.2 F.o HX.o.2,Ax.Iq w1 rb _ _ _ _,Nat.le_of_eq u.o.1.symm,⟨_,_,A.o.Au⟩⟩;unfold OZ;rw[if_neg HV.o,Zan HV.o]
open Go.RowKit
attribute [local go_sem ↓] Go.wp_at_zero Go.wp_at_succ
theorem On (w:World)(rb fx:Nat)(id first:Int)(a:w.cell? ⟨rb,0,none⟩=some (.int .u64 id))(b:w.cell? ⟨fx,0,none⟩=some (.int .u64 first)) :
  Calls prog 268 #[.pointer (some ⟨rb,0,none⟩), .pointer (some ⟨fx,0,none⟩)] w fun e w'=>e= .returned (.bool (decide (id=first)))/\∃q,w'=w.drewN q:=by
 go_enter func268,ntmps268
 go_upto_region 1 with fail
 go_quiet (fail)
 go_wp2_with fail
 go_ret
 exact⟨by first | rfl | (congr 2;by_cases e:id=first<;>simp[e]),_,rfl⟩
def CI {α:Type}(l:List α)(o:Nat):List α:=l.take o++l.drop (o+1)
theorem Zeu {α:Type}{l:List α}{o:Nat}(h:o<l.length):(CI l o).length+1=l.length:=by
 unfold CI;rw[ZX,List.length_take,List.length_drop];omega
def CU {α:Type}(l:List α)(o j:Nat):List α:=(CI l o).take (j - 1)++l.drop (j - 1)
theorem Ht {α:Type}{l:List α}{o j:Nat}(h:o<l.length)(a:1<=j)(b:j<=l.length):(CU l o j).length=l.length:=by
 have:=Zeu h;unfold CU;rw[ZX,List.length_take,List.length_drop];omega
theorem NM {α:Type}{l:List α}{o:Nat}:CU l o (o+1)=l:=by
 unfold CU CI;rw[Nat.add_sub_cancel];by_cases h:o<=l.length
 ·rw[List.take_append_of_le_length (by rw[List.length_take];omega),List.take_take,Nat.min_self,List.take_append_drop]
 ·rw[List.take_of_length_le (by rw[ZX,List.length_take,List.length_drop];omega),List.drop_of_length_le (by omega),List.take_of_length_le (by omega),List.drop_of_length_le (by omega)]
  simp
theorem Uu {α:Type}{z:α}{l:List α}{o j:Nat}(h:o<l.length)(a:1<=j)(b:j<l.length):(CU l o j).getD j z=l.getD j z:=by
 have:=Zeu h;unfold CU;rw[ZQ,ZQ,List.getElem?_append_right (by rw[List.length_take];omega),List.getElem?_drop,List.length_take]
 congr 2
 omega
theorem PE {α:Type}{z:α}{l:List α}{o j:Nat}(h:o<l.length)(f:o+1<=j)(c:j<l.length):(CU l o j).set (j - 1) (l.getD j z)=CU l o (j+1):=by
 have g:=Zeu h;have hl:=Ht h (j:=j) (by omega) (by omega);have d:=Ht h (j:=j+1) (by omega) (by omega)
 apply List.ext_getElem?
 intro m;rw[List.getElem?_set]
 have key:∀m,(CI l o)[m]? =if m<o then l[m]? else l[m+1]? :=fun m=>by
  unfold CI;by_cases e:m<o
  ·rw[if_pos e,List.getElem?_append_left (by rw[List.length_take];omega),List.getElem?_take_of_lt e]
  ·rw[if_neg e,List.getElem?_append_right (by rw[List.length_take];omega),List.getElem?_drop,List.length_take]
   congr 1;omega
 have at_:∀a,1<=a->a<=l.length->(CU l o a)[m]? =if m<a - 1 then (CI l o)[m]? else l[m]? :=fun a q1 i=>by
  unfold CU;by_cases e:m<a - 1
  ·rw[if_pos e,List.getElem?_append_left (by rw[List.length_take];omega),List.getElem?_take_of_lt e]
  ·rw[if_neg e,List.getElem?_append_right (by rw[List.length_take];omega),List.getElem?_drop,List.length_take]
   congr 1;omega
 rw[at_ j (by omega) (by omega),at_ (j+1) (by omega) (by omega)];by_cases e:j - 1=m
 ·rw[if_pos e,if_pos (by omega),if_pos (by omega),key,if_neg (by omega),ZQ,show m+1=j by omega,ZZ c]
  rfl
 ·rw[if_neg e]
  by_cases b:m<j - 1
  ·rw[if_pos b,if_pos (by omega)]
  ·rw[if_neg b,if_neg (by omega)]
theorem PD {α:Type}{l:List α}{o:Nat}(h:o<l.length):(CU l o l.length).take (l.length - 1)=CI l o:=by
 have:=Zeu h;unfold CU;rw[List.take_append_of_le_length (by rw[List.length_take];omega),List.take_take,Nat.min_self,List.take_of_length_le (by omega)]
structure FE (w:World)(B:Nat)(g kc fx:Nat)(rs:List Aq)(o:Nat)(first:Int):Prop where
 row:By w B 266 1 Lm (some ⟨g,0,none⟩) kc rs
 top:∀j,j<rs.length->∃cs fr,w.heap[(Am rs j).b]? =some (.cells cs 272 fr)/\cs[0]? =some (.int .u64 (Am rs j).id)
 fx:w.heap[fx]? =some (.cells #[.int .u64 first] 27 (0,0))
 ol:o<rs.length
 is:(Am rs o).id=first
 no:∀j,j<rs.length->j≠o->(Am rs j).id≠first
 Bs:rs.length<=6
theorem FE.below {w w':World}{B g b fx o:Nat}{rs:List Aq}{first:Int}(h:FE w B g b fx rs o first)(a:Below w.heap.size w w'):FE w' B g b fx rs o first :=
 ⟨Zam h.row a,fun j d=>by obtain⟨cs,fr,e,c⟩:=h.top j d;exact⟨cs,fr,(a.block _ (Zaa e)).trans e,c⟩,(a.block _ (Zaa h.fx)).trans h.fx,h.ol,h.is,h.no,h.Bs⟩
theorem FE.ids {w:World}{B g d fx o:Nat}{rs:List Aq}{first:Int}(h:FE w B g d fx rs o first){j:Nat}(c:j<rs.length):w.cell? ⟨(Am rs j).b,0,none⟩=some (.int .u64 (Am rs j).id):=by
 obtain⟨cs,fr,e,a⟩:=h.top j c;unfold World.cell?;rw[e];exact a
theorem FE.ptr {w:World}{B g c fx o:Nat}{rs:List Aq}{first:Int}(h:FE w B g c fx rs o first){j:Nat}(a:j<rs.length):w.cell? ⟨g,j,none⟩=some (.pointer (some ⟨(Am rs j).b,0,none⟩)):=by
 have:=DS (z:=Aq.z) h.row Dj (i:=j) (j:=0) a (by omega);rw[Nat.mul_one,Nat.add_zero] at this;exact this
theorem FE.fxc {w:World}{B g a fx o:Nat}{rs:List Aq}{first:Int}(h:FE w B g a fx rs o first):w.cell? ⟨fx,0,none⟩=some (.int .u64 first):=by
 unfold World.cell?;rw[h.fx]
 rfl
theorem FE.call {w:World}{B g c fx o:Nat}{rs:List Aq}{first:Int}(h:FE w B g c fx rs o first){j:Nat}(a:j<rs.length):Calls prog 268 #[.pointer (some ⟨(Am rs j).b,0,none⟩), .pointer (some ⟨fx,0,none⟩)] w fun e w'=>e= .returned (.bool (decide (j=o)))/\∃q,w'=w.drewN q:=by
 refine (On w (Am rs j).b fx (Am rs j).id first (h.ids a) h.fxc).mono ?_;rintro x w' ⟨rfl,q⟩;refine⟨?_,q⟩;by_cases e:j=o
 ·subst e;rw[decide_eq_true h.is,decide_eq_true rfl]
 ·rw[decide_eq_false (h.no j a e),decide_eq_false e]
theorem Vq (w:World)(B g m fx:Nat)(rs:List Aq)(o:Nat)(first:Int)(h:FE w B g m fx rs o first) :
  Calls prog 284 #[.slice (some ⟨g,0,none⟩) rs.length m, .func (.func 268) #[] #[.pointer (some ⟨fx,0,none⟩)]] w fun e w'=>e= .returned (.int .i64 o)/\∃q,w'=w.drewN q:=by
 have H:=Zz h;obtain⟨n,hn⟩:∃n,n=rs.length:=⟨_,rfl⟩;have k:=h.ol;have b:=h.Bs;rw[<-hn] at k b ⊢;have s:n<=m:=by obtain⟨_,_,_,_,_,u,_,_⟩:=Zdt h.row (by omega);omega
 have r:=Zz hn;clear h hn
 go_enter func284,ntmps284
 go_wp2_with fail
 go_loopw [8] (fun l wr=>∃i:Nat,l= .int .i64 i/\i<=o/\∃q,wr=w.drewN q) (fun l _=>o - (intOf l).toNat)
 case atStart=>exact⟨0,rfl,by omega,0,rfl⟩
 case round =>
  obtain⟨i,rfl,hi,q,rfl⟩:=hrel;have j:=H.o.below (below_drewN w q);have c:i<rs.length:=by have:=r.o;omega
  have t0:=j.ptr c;have d:=Zz (j.call c);have i1:(i:Int)<(n:Int):=by omega
  clear j;by_cases e:i=o
  ·have a:decide (i=o)=true:=decide_eq_true e
   rw[a] at d;have f:=Zz e;clear e a;go_wp2_with (go_at_call 268;refine d.o.mono ?_;rintro _ t ⟨rfl,p,rfl⟩)
   go_ret
   exact⟨by rw[<-f.o];rfl,q+p,rfl⟩
  ·have a:decide (i=o)=false:=decide_eq_false e
   rw[a] at d;have f:=Zz e;clear e a;go_wp2_with (go_at_call 268;refine d.o.mono ?_;rintro _ t ⟨rfl,p,rfl⟩)
   go_roundw
   case rel=>exact⟨i+1,by go_num,by have:=f.o;omega,q+p,rfl⟩
   case measure=>have:=f.o;simp[intOf];omega
structure XP (w wr:World)(B g kc fx:Nat)(rs:List Aq)(o:Nat)(first:Int)(j:Nat):Prop where
 row:By wr B 266 1 Lm (some ⟨g,0,none⟩) kc (CU rs o j)
 f:Ax w wr g
theorem XP.below {w wr w':World}{B g a fx o j:Nat}{rs:List Aq}{first:Int}(h:XP w wr B g a fx rs o first j)(q:Nat)(e:w'=wr.drewN q):XP w w' B g a fx rs o first j:=by
 subst e;exact⟨Zam h.row (below_drewN wr q),⟨h.f.os,h.f.tape,h.f.output,h.f.size,h.f.block⟩⟩
end Go.Proofs.YtgdcjccbdmcebaaGreatDoor
