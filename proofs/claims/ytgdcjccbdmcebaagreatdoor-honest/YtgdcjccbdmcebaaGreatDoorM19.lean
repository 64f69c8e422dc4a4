import Derived.Test.YtgdcjccbdmcebaaGreatDoorM18
set_option linter.all false
set_option maxHeartbeats 16000000
set_option maxRecDepth 100000
open Go.Proofs.Tryz
open Go.Exit renaming inBlock->QIy
open Go.Result renaming andThen->QDt
open Go.World renaming cell?_of_block->QEc
open List renaming getElem?_modify->QAm
namespace Go.Proofs.YtgdcjccbdmcebaaGreatDoor
open Go.RowKit
attribute [local go_sem ↓] Go.wp_at_zero Go.wp_at_succ
variable {Kp:Int->World->Prop}
theorem Zbo {fn:Func}{p u v:Tmp}{ty:TypeId}(h:fn.results=#[.cell p ty,.tmp u,.tmp v])(tmps:Array Value)(P:Program)(w:World) :
  (results fn tmps).run P w =
   ((asAddr (tmps.getD p undef)).run P w).andThen fun a w₁=>((loadVar ty a).run P w₁).andThen fun x w₂=> .ok (.tuple #[x,tmps.getD u undef,tmps.getD v undef]) w₂:=by
 simp only[results,h];simp[Sem.run_bind,QDt]
structure AA (w w':World)(rb:Nat):Prop where
 os:w'.os=w.os
 tape:w'.tape=w.tape
 output:w'.output=w.output
 size:w.heap.size<=w'.heap.size
 block:∀k,k<w.heap.size->k≠rb->w'.heap[k]? =w.heap[k]?
theorem AA.gf {w w':World}{rb P:Nat}(h:AA w w' rb)(b:P<w.heap.size)(c:P≠rb):GF w w' P (fun _=>False) (fun k=>k=rb) :=
 ⟨h.size,fun k hk _ d=>h.block k hk d,fun o _=>QEc (a:=⟨P,o,none⟩) (h.block P b c),fun o=>World.frozen?_of_block (a:=⟨P,o,none⟩) (h.block P b c)⟩
theorem Ch.one {qh:Nat}{w w':World}{P B:Nat}{ob:Option Nat}{e:Ab}{rs:List Aq}{l:List Tm}{rb:Nat}(h:Ch qh w P B ob e rs l)(D:AA w w' rb)(C:P≠rb)(E:∃cs fr,w.heap[rb]? =some (.cells cs 48 fr)):Ch qh w' P B ob e rs l:=by
 obtain⟨el,now,b,x,y⟩:=h.ex;have g:=D.gf b.pl C;obtain⟨r,u,i⟩:=E;have no:∀{k:Nat} {cs:Array Value} {t:TypeId} {fr:Nat×Nat},w.heap[k]? =some (.cells cs t fr)->t≠48->¬k=rb:=fun e d hk=>Zah e i d hk;obtain⟨F,G,v⟩:=b.kn;obtain⟨a,n,c,f,H,z,j⟩:=b.en;obtain⟨p,n',q,s,m,A⟩:=b.qu;refine⟨⟨el,now,⟨⟨F,G,v.gf g (fun h=>h) (fun k cs t fr _ e d=>no e (by rcases d with rfl | rfl | rfl | rfl<;>decide))⟩,⟨a,n,c,f,H,z.gf g (fun o _ _ h=>h) (fun k cs t fr _ e d _=>no e (by subst d;decide)),j⟩,⟨p,n',q,s,m,A.gf g (fun o _ _ h=>h) (fun k cs t fr _ e d=>no e (by subst d;decide))⟩,b.wh.gf g (fun o _ _ h=>h) (fun k cs t fr _ e d=>no e (by subst d;decide)) (fun k es c _ e hk=>by subst hk;rw[i] at e;cases e),(g.off 728 (fun h=>h)).trans b.lr,(g.off 729 (fun h=>h)).trans b.lt,(g.off 730 (fun h=>h)).trans b.sd,fun o=>(g.AD o).trans (b.fz o),Zy b.qs g.size⟩,x,y⟩,h.len,h.runs⟩
structure DV (w:World)(rb:Nat)(a b c d:Int):Prop where
 Au:w.heap[rb]? =some (.cells #[.int .u64 a,.int .i64 b,.int .i64 c,.int .u64 d] 48 (0,0))
theorem DV.cells {w:World}{rb:Nat}{a b c d:Int}(h:DV w rb a b c d):((w.cell? ⟨rb,0,none⟩=some (.int .u64 a)/\w.cell? ⟨rb,1,none⟩=some (.int .i64 b))/\w.cell? ⟨rb,2,none⟩=some (.int .i64 c))/\w.cell? ⟨rb,3,none⟩=some (.int .u64 d):=by
 unfold World.cell?;rw[h.Au];exact⟨⟨⟨rfl,rfl⟩,rfl⟩,rfl⟩
theorem DV.AD {w:World}{rb:Nat}{a b c d:Int}(h:DV w rb a b c d):((w.frozen? ⟨rb,0,none⟩=false/\w.frozen? ⟨rb,1,none⟩=false)/\w.frozen? ⟨rb,2,none⟩=false)/\w.frozen? ⟨rb,3,none⟩=false:=by
 unfold World.frozen?;rw[h.Au];exact⟨⟨⟨rfl,rfl⟩,rfl⟩,rfl⟩
theorem DV.set {w:World}{rb:Nat}{a b c d:Int}(h:DV w rb a b c d)(x y z t:Int):DV ((((w.setCell ⟨rb,0,none⟩ (.int .u64 x)).setCell ⟨rb,1,none⟩ (.int .i64 y)).setCell ⟨rb,2,none⟩ (.int .i64 z)).setCell ⟨rb,3,none⟩ (.int .u64 t)) rb x y z t:=by
 have e:=Zab (o:=0) h.Au (.int .u64 x);have f:=Zab (o:=1) e (.int .i64 y);have g:=Zab (o:=2) f (.int .i64 z);have i:=Zab (o:=3) g (.int .u64 t);exact⟨i⟩
theorem DV.at_ {w w':World}{rb:Nat}{a b c d:Int}(h:DV w rb a b c d)(e:w'.heap[rb]? =w.heap[rb]?):DV w' rb a b c d:=⟨e.trans h.Au⟩
theorem AA.Jo (w:World)(rb:Nat)(x y z t:Value):AA w ((((w.setCell ⟨rb,0,none⟩ x).setCell ⟨rb,1,none⟩ y).setCell ⟨rb,2,none⟩ z).setCell ⟨rb,3,none⟩ t) rb :=
 ⟨rfl,rfl,rfl,by simp[World.setCell],fun k _ hk=>(Zl _ ⟨rb,3,none⟩ _ k hk).trans ((Zl _ ⟨rb,2,none⟩ _ k hk).trans ((Zl _ ⟨rb,1,none⟩ _ k hk).trans (Zl _ ⟨rb,0,none⟩ _ k hk)))⟩
theorem AA.below {w a w':World}{rb:Nat}(h:AA a w' rb)(hb:ZY w a)(b:w.heap.size<=rb):ZY w w':=⟨h.os.trans hb.os,h.tape.trans hb.tape,h.output.trans hb.output,Zv hb.size h.size,fun k hk=>(h.block k (Zy hk hb.size) (by omega)).trans (hb.block k hk)⟩
theorem Fh {w:World}{rb:Nat}{a b c d:Int}(h:DV w rb a b c d):(loadVar 48 ⟨rb,0,none⟩).run prog w=.ok (.agg #[.int .u64 a,.int .i64 b,.int .i64 c,.int .u64 d]) w:=by
 obtain⟨⟨⟨e,f⟩,g⟩,i⟩:=h.cells
 go_simp
theorem AA.drew {w w':World}{rb:Nat}(h:AA w w' rb):AA w w'.drew rb:=⟨h.os,h.tape,h.output,h.size,h.block⟩
theorem Kf {α:Type}(l:List α)(i:Nat)(f g:α->α):(l.modify i f).modify i g=l.modify i (fun x=>g (f x)):=by
 apply List.ext_getElem?
 intro j;rw[QAm,QAm,QAm]
 cases l[j]? with
 | none=>rfl
 | some r =>
  show some _=some _
  congr 1
  by_cases c:i=j
  .subst c;simp
  .simp[c]
theorem Li (e:Ab)(i k:Nat)(f g:AO->AO):((e.Af i k f).Af i k g).runs=(e.Af i k (fun s=>g (f s))).runs:=by
 show (e.runs.modify i _).modify i _=e.runs.modify i _;rw[Kf]
 congr 1
 funext r
 unfold Ag.Af;simp only[Ag.mk.injEq,true_and,and_true];exact Kf _ _ _ _
def WW (r:Int)(k:Nat)(t tk:Int):Value:=.agg #[.int .u64 r,.int .i64 k,.int .i64 t,.int .u64 tk]
def KP:Value:=.agg #[.int .u64 0,.int .i64 0,.int .i64 0,.int .u64 0]
def OM (p:Ba)(t tk v:Int):Value:=if v=0 then .tuple #[WW p.run p.node t tk,.bool true,.nilIface] else .tuple #[KP,.bool false,AK v]
theorem LP {qh:Nat}(w:World)(P B:Nat)(ob:Option Nat)(e:Ab)(fn:Nat)(cs:Array Value)(h:BE qh w P B ob e)(wk:Ao e)(hk:EE w P B fn cs Kp)(jq:e.Ah<18446744073709551616)(jr:e.Ai<18446744073709551615) :
  Calls prog 129 #[.pointer (some ⟨P,4,none⟩),.func (.func fn) #[] cs] w fun x w'=>(e.Bl=none/\x=.returned (.tuple #[KP,.bool false,.nilIface])/\ZY w w')\/∃p t tk e2 v w2 rb,e.Bl=some (p,t,tk,e2)/\x=.returned (OM p t tk v)/\BX qh P B ob Kp e e2 v w2/\AA w2 w' rb/\w.heap.size<=rb/\(∃cs fr,w2.heap[rb]? =some (.cells cs 48 fr)):=by
 obtain⟨rs,l,hx,ht⟩:=h;obtain⟨el,now,N,ck,az⟩:=hx.ex;obtain⟨qa,qn,qc,qf,jt,hq⟩:=N.qu;have j7:=N.pl;obtain⟨w0,al⟩:∃w0,w0=w.alloc (.cells #[.int .u64 0,.int .i64 0,.int .i64 0,.int .u64 0] 48):=⟨_,rfl⟩;obtain⟨rb,br⟩:∃rb,rb=w.heap.size:=⟨_,rfl⟩;have ae:ZY w w0:=by rw[al];exact ZV.alloc ZU _
 have W:w0.heap[rb]? =some (.cells #[.int .u64 0,.int .i64 0,.int .i64 0,.int .u64 0] 48 (0,0)):=by rw[al,br];exact heap_alloc_new w _
 have ez:=hq.below ae;have c2:=ez.c2;have HE:=Zz (EL w0 P e.queue.length c2)
 cases R:e.queue with
 | nil =>
  rw[R] at HE;have du:Hid (Calls prog 199 #[.pointer (some ⟨P,8,none⟩)] w0 fun e w'=>e=.returned (.bool true)/\w'=w0):=HE;have hn:=QF R;have HR:=Zz (Zq ae hn);have u:=Zz (Zq br al);have Z:=Zz (DV.mk W);obtain⟨⟨⟨f0,f1⟩,f2⟩,f3⟩:=Z.o.AD;obtain⟨⟨⟨z0,z1⟩,z2⟩,z3⟩:=Z.o.cells;clear hx ht N ck az hq ez c2 R hk ae hn br al W
  go_enter func129,ntmps129
  go_upto_region 1 with fail
  rw[<-u.o.1,<-u.o.2];go_wp2_with (go_at_call 199;refine du.o.mono ?_;rintro _ w1 ⟨rfl,fh⟩;rw[fh])
  (try simp only[QIy,Exit.then])
  have S:=Fh (Z.o.set 0 0 0 0);refine bodyPost_ret (v:=.tuple #[KP,.bool false,.nilIface]) (by rw[Zbo rfl];simp[QDt,asAddr,S,KP]) rfl ?_;exact Zu ⟨HR.o.2,rfl,(AA.Jo w0 rb _ _ _ _).below HR.o.1 (Nat.le_of_eq u.o.1.symm)⟩
 | cons p q =>
  rw[R] at HE;have du:Hid (Calls prog 199 #[.pointer (some ⟨P,8,none⟩)] w0 fun e w'=>e=.returned (.bool false)/\w'=w0):=HE;obtain⟨i,hi,gq,G,bw,gm,C⟩:=Tv wk R;have d:=Zz (Zq hi (Zq gq (Zq G (Zq bw (Zq gm (Zq C R))))));have HX:=Zz (Zq hx ht);have HR:=Zz ae;have u:=Zz (Zq br al);have Z:=Zz (DV.mk W);have HK:=Zz (hk.2 w0 ae);have gh:=hk.1 w0;have au:=Zz N.pb;have j8:=c2;rw[R] at c2;clear hx ht N ck az hq ez R hk ae br al W hi gq G bw gm C j7 j8
  go_enter func129,ntmps129
  go_upto_region 1 with fail
  rw[<-u.o.1,<-u.o.2]
  go_upto_region 4 with (first
   | (go_at_call 199;refine du.o.mono ?_;rintro _ w1 ⟨rfl,fh⟩;rw[fh])
   | (refine HK.o.mono ?_;rintro _ w1 ⟨v,rfl,hn,gu⟩;have HN:=Zz (Zq hn gu);clear hn gu))
  have z:=Zz (Z.o.at_ (HN.o.1.block rb _ _ _ (by have:=au.o;have:=u.o.1;omega) Z.o.Au (by unfold Rb;simp)));have ay:=(HX.o.1.below HR.o).side HN.o.1;by_cases hv:v=0
  .subst hv
   rw[Zaw];obtain⟨el,now,N,ck,az⟩:=ay.ex;obtain⟨je,jj,jf,jh,gy,de⟩:=N.qu;rw[d.o.2.2.2.2.2.2] at de;have fs:=Zz (Tw w1 P B jj jf jh je gy q p de);have Y:=Zz (Zq N (Zq ck (Zq az de)));have E:=Zz ay;clear N ck az de ay gh c2
   go_upto_region 7 with (go_at_call 200;refine fs.o.mono ?_;rintro _ w2 ⟨rfl,hp⟩;have iq:=Zz hp;clear hp)
   obtain⟨L,dj⟩:∃L,L=w2.alloc (.cells #[.int .u64 p.run,.int .i64 p.node] 274):=⟨_,rfl⟩;obtain⟨sb,dh⟩:∃sb,sb=w2.heap.size:=⟨_,rfl⟩;rw[<-dj,<-dh];have cq:ZY w2 L:=by rw[dj];exact ZV.alloc ZU _
   have gw:Bx L sb p.run p.node:=by rw[dj,dh];exact heap_alloc_new w2 _
   have H3:=Zz (show Ch qh L P B ob { e with queue:=q } rs l/\KF w1 L P B ob/\Bx L sb p.run p.node/\DV L rb 0 0 0 0/\rb<sb by
    obtain⟨m1,m2,m3,m4⟩:=Y.o;obtain⟨f',ju,k1,k2⟩:=iq.o;have cz:=KF.Qx m4 k2 ob;have j9:=Zaa z.o.Au;refine⟨⟨⟨el,now,(m1.queue (by rw[d.o.2.2.2.2.2.2];exact m4) k2 ⟨_,_,_,_,_,k1⟩).below cq,m2,m3.same rfl (fun _ _=>⟨rfl,rfl⟩)⟩,E.o.len,E.o.runs⟩,cz.trans (KF.Ae P B ob cq) (As.refl _ _),gw,?_,by have:=cz.size;omega⟩;have e1:w2.heap[rb]? =w1.heap[rb]? :=cz.block rb j9 (by have:=au.o;have:=u.o.1;omega) (Zj ⟨_,_,_,z.o.Au,by decide,by decide,by decide,by decide,by decide,fun x=>absurd x (by decide)⟩);exact z.o.at_ ((cq.block rb (by have:=cz.size;omega)).trans e1))
   have jm:=Zz dh;clear dj cq gw dh;obtain⟨b,hb⟩:∃b,b=(Am rs i).b:=⟨_,rfl⟩;obtain⟨ng,dc⟩:∃ng,ng=(Am rs i).ng:=⟨_,rfl⟩;obtain⟨n,hn⟩:∃n,n=(Am rs i).ns.length:=⟨_,rfl⟩;obtain⟨r,hr⟩:∃r,r=Am rs i:=⟨_,rfl⟩
   have iw:AR qh L B r/\Bu r (e.at_ i)/\(∀m,Calls prog 157 #[.pointer (some ⟨P,4,none⟩),.int .u64 p.run] (L.drewN m) fun x w'=>x=.returned (.pointer (some ⟨b,0,none⟩))/\∃q,w'=(L.drewN m).drewN q):=by
    obtain⟨dw,T,ee,_,_⟩:=H3.o.1.ex;obtain⟨ka,kc,da⟩:=ee.kn;have j3:i<rs.length:=by rw[E.o.len];exact d.o.1
    refine⟨by rw[hr];exact da.runs i j3,by rw[hr];exact E.o.runs i d.o.1,fun m=> ?_⟩;have:=GK (L.drewN m) P B kc ka rs p.run (da.below (below_drewN L m));rw[JM E.o.len E.o.runs,d.o.2.2.2.2.1] at this;refine this.mono ?_;rintro x w' ⟨rfl,rfl⟩;exact⟨by rw[hb];rfl,0,rfl⟩
   obtain⟨ax,ei,gb⟩:=iw;have ie:=Zz gb;obtain⟨⟨t0,_,t2⟩,_⟩:=ax.CP;obtain⟨_,_,j6,_,cy,_⟩:=ax.Bj;have iu:=ax.Br;have db:p.node<r.ns.length:=by rw[ei.len];exact d.o.2.1
   have dd:n=r.ns.length:=by rw[hn,hr]
   rw[<-hr] at hb dc;rw[<-hb,<-dc,<-dd] at t2;rw[<-dd] at j6 iu db;have jl:(p.node:Int)<(n:Int):=by omega
   obtain⟨v0,v1⟩:=H3.o.2.2.1.cells;have c:=Zz (Zq ax (Zq ei (Zq hb (Zq dc (Zq dd (Zq hr cy))))))
   generalize r.nc=nc at *
   clear ax ei gb hb dc hn dd hr cy t0
   go_quiet ((go_at_call 157;refine Calls.quiet_of (ie.o _)))
   go_upto_region 8 with fail
   have cr:ZY L (L.drewN nq):=below_drewN L nq;have H4:=Zz (Zq (H3.o.1.below cr) (Zq (c.o.1.below cr) (Zq cr (show Bx (L.drewN nq) sb p.run p.node/\DV (L.drewN nq) rb 0 0 0 0 from⟨H3.o.2.2.1,⟨H3.o.2.2.2.1.Au⟩⟩))));clear cr t2 v0 v1
   generalize L.drewN nq=w4 at *
   obtain⟨d0,dz⟩:w4.cell? ⟨P,729,none⟩=some (.int .u64 e.Ai)/\w4.frozen? ⟨P,729,none⟩=false:=by
    obtain⟨_,_,N,_,_⟩:=H4.o.1.ex;exact⟨N.lt,N.fz 729⟩
   have ew:IntKind.u64.wrap (e.Ai+1)=e.Ai+1:=by have:=wk.Xt;rw[IntKind.wrap_u64];omega
   go_upto_region 9 with fail
   obtain⟨tk,fe⟩:∃tk,tk=e.Ai+1:=⟨_,rfl⟩;rw[<-fe];obtain⟨X,cm⟩:∃X,X=w4.setCell ⟨P,729,none⟩ (.int .u64 tk):=⟨_,rfl⟩;rw[<-cm]
   have H5:=Zz (show Ch qh X P B ob { e with queue:=q,Ai:=tk } rs l/\AR qh X B r/\KF w1 X P B ob/\Bx X sb p.run p.node/\DV X rb 0 0 0 0 by
    obtain⟨x1,x2,x3,x4,x5⟩:=H4.o;obtain⟨dw,T,ee,m2,m3⟩:=x1.ex;have hb:∀k,k≠P->X.heap[k]? =w4.heap[k]? :=fun k hk=>by rw[cm];exact Zl w4 ⟨P,729,none⟩ _ k hk
    have iy:=au.o;have js:P<w1.heap.size:=by have:=E.o.ex;obtain⟨_,_,N,_⟩:=this;exact N.pl
    have eg:=ee.num 729 tk e.Ah tk e.Ar (Zj (Zu ⟨rfl,rfl,rfl,rfl⟩));rw[<-cm] at eg;refine⟨⟨⟨dw,T,eg,m2,m3.same rfl (fun _ _=>⟨rfl,rfl⟩)⟩,x1.len,x1.runs⟩,?_,?_,(hb sb (by have:=H3.o.2.2.2.2;have:=u.o.1;omega)).trans x4,x5.at_ (hb rb (by have:=u.o.1;omega))⟩
    .obtain⟨ka,kc,da⟩:=eg.kn
     have:=da.runs i (by rw[E.o.len];exact d.o.1);rw[<-c.o.2.2.2.2.2.1] at this;exact this
    .have:=KF.Bv w4 P B 729 ob (.int .u64 tk) (by omega)
     rw[<-cm] at this;exact (H3.o.2.1.trans (KF.Ae P B ob x3) (As.refl _ _)).trans this (As.refl _ _))
   have aw:=Zz fe;clear d0 dz ew cm fe;obtain⟨tr,fg⟩:∃tr,tr=((e.at_ i).at_ p.node).tries:=⟨_,rfl⟩
   have F:((r.at_ p.node).tries=tr/\(r.at_ p.node).cl=(e.at_ i).fl.cl p.node/\(r.at_ p.node).be=(e.at_ i).fl.be p.node)/\Be (e.at_ i).fl p.node/\(0<=tr/\tr<=5)/\(e.at_ i).st=1:=by
    have h1:=wk.Bi d.o.1 d.o.2.1 (by rw[d.o.2.2.2.1];omega);have G:=wk.runs i d.o.1;have A:=G.fl.node p.node (by rw[<-G.len];exact d.o.2.1);have q1:=c.o.2.1.live h1 p.node d.o.2.1;have q2:=c.o.2.1.nd p.node d.o.2.1;have bw:=G.steps p.node d.o.2.1;have:=bw.tr0;have:=bw.Xv;have:=A.bu2;exact⟨⟨by rw[fg];exact q2.2,q1.cl,q1.be⟩,A,by omega,h1⟩
   have D:=Zz F;have fw:=Zz fg
   obtain⟨y0,y1,y2,y3,y4,y5,y6,y7,y8,y9⟩:=(show NdC X ng (p.node * 10) (r.at_ p.node) by
    have:=H5.o.2.1.nd (k:=p.node) (by rw[<-c.o.2.2.2.2.1];exact db);rw[<-c.o.2.2.2.1] at this;exact this)
   rw[D.o.1.1] at y8;rw[D.o.1.2.1] at y1;rw[D.o.1.2.2] at y2;have cu:∀j,X.frozen? ⟨ng,j,none⟩=false:=fun j=>by rw[c.o.2.2.2.1];exact H5.o.2.1.AD j
   have g7:=cu (p.node * 10+7);have g8:=cu (p.node * 10+8);have g9:=cu (p.node * 10+9);obtain⟨cl,ey⟩:∃cl,cl=(e.at_ i).fl.cl p.node:=⟨_,rfl⟩;obtain⟨be,ep⟩:∃be,be=(e.at_ i).fl.be p.node:=⟨_,rfl⟩;rw[<-ey] at y1;rw[<-ep] at y2;have H:=Zz (Zq ey ep);have ew:wrap64 (tr+1)=tr+1:=by have:=F.2.2.1;unfold wrap64;omega
   have d5:X.cell? ⟨P,729,none⟩=some (.int .u64 tk):=by
    obtain⟨_,_,N,_,_⟩:=H5.o.1.ex;exact N.lt
   have iz:¬P=ng:=by have:=au.o;have:=c.o.2.2.2.2.2.2;have:=c.o.2.2.2.1;omega
   have jo:¬ng=P:=fun x=>iz x.symm;clear cu F fg ey ep y0 y3 y4 y5 y6
   go_upto_region 12 with fail
   obtain⟨M,fi⟩:∃M,M=((X.setCell ⟨ng,p.node * 10+7,none⟩ (.int .i64 3)).setCell ⟨ng,p.node * 10+8,none⟩ (.int .i64 (tr+1))).setCell ⟨ng,p.node * 10+9,none⟩ (.int .u64 tk):=⟨_,rfl⟩;rw[<-fi];obtain⟨r',aj⟩:∃r',r'=r.BG p.node (fun n=>{ n with st:=3,tries:=tr+1,tok:=tk }):=⟨_,rfl⟩;obtain⟨ec,J⟩:∃ec,ec=({ e with queue:=q,Ai:=tk }:Ab).Af i p.node (fun s=>{ s with st:=3,tries:=tr+1,tok:=tk }):=⟨_,rfl⟩
   have H6:=Zz (show Ch qh M P B ob ec (rs.set i r') l/\AR qh M B r'/\KF w1 M P B ob/\Bx M sb p.run p.node/\DV M rb 0 0 0 0 by
    obtain⟨x1,x2,x3,x4,x5⟩:=H5.o;have ag:p.node<r.ns.length:=by rw[<-c.o.2.2.2.2.1];exact db
    have s1:=x2.FP (k:=p.node) (j:=7) (f:=fun n=>{ n with st:=3 }) (v:=.int .i64 3) ag (by omega) rfl ⟨rfl,rfl,rfl⟩;have s2:=s1.FP (k:=p.node) (j:=8) (f:=fun n=>{ n with tries:=tr+1 }) (v:=.int .i64 (tr+1)) (by rw[Aq.AW];exact ag) (by omega) rfl ⟨rfl,rfl,rfl⟩;have s3:=s2.FP (k:=p.node) (j:=9) (f:=fun n=>{ n with tok:=tk }) (v:=.int .u64 tk) (by rw[Aq.AW,Aq.AW];exact ag) (by omega) rfl ⟨rfl,rfl,rfl⟩;have hf:=((Dm.EA X r.b r.ng (p.node * 10+7) (.int .i64 3)).trans (Dm.EA _ r.b r.ng (p.node * 10+8) (.int .i64 (tr+1)))).trans (Dm.EA _ r.b r.ng (p.node * 10+9) (.int .u64 tk));have e3:r'=((r.BG p.node (fun n=>{ n with st:=3 })).BG p.node (fun n=>{ n with tries:=tr+1 })).BG p.node (fun n=>{ n with tok:=tk }):=by rw[aj,Aq.Ft,Aq.Ft]
    have s3:AR qh (((X.setCell ⟨r.ng,p.node * 10+7,none⟩ (.int .i64 3)).setCell ⟨r.ng,p.node * 10+8,none⟩ (.int .i64 (tr+1))).setCell ⟨r.ng,p.node * 10+9,none⟩ (.int .u64 tk)) B r':=by rw[e3];exact s3
    rw[<-c.o.2.2.2.1,<-fi] at hf s3
    have hX:=x1.BG (e':=ec) (i:=i) (k:=p.node) (f:=fun n=>{ n with st:=3,tries:=tr+1,tok:=tk }) (g:=fun s=>{ s with st:=3,tries:=tr+1,tok:=tk }) d.o.1 D.o.2.2.2 d.o.2.1 rfl rfl (by
     have:=c.o.2.1.live D.o.2.2.2 p.node d.o.2.1;rw[c.o.2.2.2.2.2.1] at this;exact⟨rfl,this.bu,this.cl,this.be,this.ba,this.ca,this.ji,this.af⟩) (by rw[<-c.o.2.2.2.2.2.1,<-aj];exact s3) (by rw[<-c.o.2.2.2.2.2.1,<-c.o.2.2.2.1];exact hf) (by rw[J]) (by rw[J];rfl) (by rw[J];rfl) (by rw[J];rfl) (by rw[J];rfl) (by rw[J];rfl)
    rw[<-c.o.2.2.2.2.2.1,<-aj] at hX;obtain⟨cg,bj,_⟩:=x2.Bj;refine⟨hX.1,s3,x3.trans hX.2.2 (As.refl _ _),(hf.block sb (Zaa x4) (Zah x4 x2.top (by decide)) (by rw[c.o.2.2.2.1];exact Zah x4 bj (by decide))).trans x4,x5.at_ (hf.block rb (Zaa x5.Au) (Zah x5.Au x2.top (by decide)) (by rw[c.o.2.2.2.1];exact Zah x5.Au bj (by decide)))⟩)
   have ft:=Zz (show r'.ng=ng/\r'.b=b/\p.node<r'.ns.length/\r'.at_ p.node={ r.at_ p.node with st:=3,tries:=tr+1,tok:=tk } by
    have ag:p.node<r.ns.length:=by rw[<-c.o.2.2.2.2.1];exact db
    rw[aj];refine⟨c.o.2.2.2.1.symm,c.o.2.2.1.symm,by rw[Aq.AW];exact ag,?_⟩;rw[Aq.BY _ _ _ _ ag,if_pos rfl])
   have bh:∀wx w',ZY M wx->PF wx w' P B Ck->(((((w'.cell? ⟨sb,0,none⟩=some (.int .u64 p.run)/\w'.cell? ⟨sb,1,none⟩=some (.int .i64 p.node))/\w'.cell? ⟨ng,p.node * 10+1,none⟩=some (.int .i64 cl))/\w'.cell? ⟨ng,p.node * 10+2,none⟩=some (.int .i64 be))/\w'.cell? ⟨ng,p.node * 10+8,none⟩=some (.int .i64 (tr+1)))/\w'.cell? ⟨ng,p.node * 10+9,none⟩=some (.int .u64 tk))/\Bx w' sb p.run p.node/\DV w' rb 0 0 0 0:=fun wx w' hb hf=>by
    obtain⟨x1,x2,x3,x4,x5⟩:=H6.o;obtain⟨cg,bj,_,_,cy,_⟩:=x2.Bj;obtain⟨n1,n2,n3,n4⟩:=ft.o;have F:=x2.nd n3;rw[n4] at F;rw[n1] at bj F cy
    have stay:∀k cs t fr,M.heap[k]? =some (.cells cs t fr)->t≠288->k≠P->w'.heap[k]? =M.heap[k]? :=fun k cs t fr e ht hk=>by
     have e1:=hb.block k (Zaa e);exact (hf.other (e1.trans e) ht hk).trans e1
    have iy:=au.o;have h1:=stay sb _ _ _ x4 (by decide) (by have:=H3.o.2.2.2.2;have:=u.o.1;omega);have h2:=stay ng _ _ _ bj (by decide) (by omega);have h3:=stay rb _ _ _ x5.Au (by decide) (by have:=u.o.1;omega);have hs:Bx w' sb p.run p.node:=h1.trans x4;have hc:=hs.cells;refine⟨⟨⟨⟨⟨hc,?_⟩,?_⟩,?_⟩,?_⟩,hs,x5.at_ h3⟩
    .rw[H.o.1,<-D.o.1.2.1];exact (QEc (a:=⟨ng,p.node * 10+1,none⟩) h2).trans F.c1
    .rw[H.o.2,<-D.o.1.2.2];exact (QEc (a:=⟨ng,p.node * 10+2,none⟩) h2).trans F.c2
    .exact (QEc (a:=⟨ng,p.node * 10+8,none⟩) h2).trans F.c8
    .exact (QEc (a:=⟨ng,p.node * 10+9,none⟩) h2).trans F.c9
   have ar:=Zz bh
   have dp:∀wx,ZY M wx->Calls prog 198 #[.pointer (some ⟨P,4,none⟩),.agg #[.int .u64 p.run,.int .i64 p.node,.int .i64 1],.int .i64 cl] wx fun x w'=>x=.returned (.tuple #[])/\∃y l1,BZ l (Bc p.run p.node 1) y l1/\Bh w' P B Ck now (l1++[⟨Bc p.run p.node 1,Za2 now (now+cl),e.timers+1⟩])/\PF wx w' P B Ck:=fun wx hb=>by
    obtain⟨x1,_⟩:=H6.o;obtain⟨dw,T,N,m2,_⟩:=x1.ex
    have gv:T=now:=by
     have e1:ec.time=e.time:=by rw[J];rfl
     have:=Y.o.2.1;omega
    subst gv;have:=wk.Uc i d.o.1;have:=wk.Rr i d.o.1;have:=wk.IS d.o.1;have:=d.o.2.1;have A:=D.o.2.1;rw[d.o.2.2.1];exact ES wx P B T l (Bc (e.at_ i).id p.node 1) (e.at_ i).id p.node 1 cl e.timers (N.wh.Ak hb) (FM (by omega) (by omega) (by omega) (by omega) (by decide) (by decide)) (by rw[H.o.1];have:=A.Ub;omega) (by rw[H.o.1];have:=A.cl2;omega) (by have:=HX.o.2.Br wk;omega)
   have fv:=Zz dp;obtain⟨⟨⟨⟨⟨v0,v1⟩,c1⟩,c2⟩,c8⟩,c9⟩:=(bh M M ZV (PF.refl _ _ _ _)).1;have O:=Zz (Zq aj J);clear y1 y2 y7 y8 y9 g7 g8 g9 ew d5 bh dp fi aj J
   go_region_held3 (fun w'=>(w'.cell? ⟨sb,0,none⟩=some (.int .u64 p.run)/\w'.cell? ⟨sb,1,none⟩=some (.int .i64 p.node))/\w'.cell? ⟨ng,p.node * 10+1,none⟩=some (.int .i64 cl)) (go_keep) ((go_at_call 198;refine (fv.o M.drew (ZV.drew)).mono ?_;rintro _ w7 ⟨rfl,y,l1,I,K,U⟩;have im:=Zz (Zq I (Zq K U));have y:=(ar.o M.drew w7 (ZV.drew) U).1;have y0:=y.1.1.1.1.1;have y1:=y.1.1.1.1.2;have y2:=y.1.1.1.2;clear I K U y))
   go_upto_region 13 with fail
   obtain⟨I,K,U⟩:=im.o;obtain⟨l2,Q⟩:∃l2,l2=l1++[⟨Bc p.run p.node 1,Za2 now (now+cl),e.timers+1⟩]:=⟨_,rfl⟩;rw[<-Q] at K
   have fy:∀wx,ZY w7 wx->Calls prog 148 #[.pointer (some ⟨P,4,none⟩),.agg #[.int .u64 p.run,.int .i64 p.node],.int .i64 be] wx fun x w'=>x=.returned (.tuple #[])/\(∃l3,((be=0/\l3=l2)\/(be≠0/\∃y l4,BZ l2 (Bc p.run p.node 2) y l4/\l3=l4++[⟨Bc p.run p.node 2,Za2 now (now+be),e.timers+1+1⟩]))/\Bh w' P B Ck now l3)/\PF wx w' P B Ck:=fun wx hb=>by
    have:=wk.Uc i d.o.1;have:=wk.Rr i d.o.1;have:=wk.IS d.o.1;have:=d.o.2.1;have A:=D.o.2.1;have h1:=I.len;have h2:=HX.o.2.Br wk;rw[d.o.2.2.1];rw[d.o.2.2.1] at Q;exact Ls wx P B now l2 (e.at_ i).id p.node be (e.timers+1) (K.Ak hb) (FM (by omega) (by omega) (by omega) (by omega) (by decide) (by decide)) (by rw[H.o.2];exact A.Rh) (by rw[H.o.2];have:=A.be2;omega) (by rw[Q,ZX,List.length_singleton];omega)
   have gz:=Zz fy;obtain⟨⟨⟨⟨⟨v0,v1⟩,c1⟩,c2⟩,c8⟩,c9⟩:=(ar.o M.drew w7 (ZV.drew) U).1;have bp:PF M w7 P B Ck:=(PF.Ae (ZV.drew)).trans U;have fm:=Zz (Zq I (Zq K (Zq bp Q)));have fj:Hid (∀w',PF w7 w' P B Ck->(((((w'.cell? ⟨sb,0,none⟩=some (.int .u64 p.run)/\w'.cell? ⟨sb,1,none⟩=some (.int .i64 p.node))/\w'.cell? ⟨ng,p.node * 10+1,none⟩=some (.int .i64 cl))/\w'.cell? ⟨ng,p.node * 10+2,none⟩=some (.int .i64 be))/\w'.cell? ⟨ng,p.node * 10+8,none⟩=some (.int .i64 (tr+1)))/\w'.cell? ⟨ng,p.node * 10+9,none⟩=some (.int .u64 tk))/\Bx w' sb p.run p.node/\DV w' rb 0 0 0 0):=Zz (fun w' hf=>ar.o M w' ZV (bp.trans hf));clear I K U fy bp Q y0 y1 y2
   go_region_held3 (fun w'=>(w'.cell? ⟨sb,0,none⟩=some (.int .u64 p.run)/\w'.cell? ⟨sb,1,none⟩=some (.int .i64 p.node))/\w'.cell? ⟨ng,p.node * 10+2,none⟩=some (.int .i64 be)) (go_keep) ((go_at_call 148;refine (gz.o w7.drew (ZV.drew)).mono ?_;rintro _ w8 ⟨rfl,bo,bf⟩;have fq:=Zz (Zq bo bf);have y:=(fj.o w8 ((PF.Ae (ZV.drew)).trans bf)).1;have y0:=y.1.1.1.1.1;have y1:=y.1.1.1.1.2;have y2:=y.1.1.2;clear bo bf y))
   go_upto_region 14 with fail
   have dy:=fj.o w8 ((PF.Ae (ZV.drew)).trans fq.o.2);have V:=Zz dy.2.2;obtain⟨⟨⟨⟨⟨v0,v1⟩,c1⟩,c2⟩,c8⟩,c9⟩:=dy.1;obtain⟨⟨⟨f0,f1⟩,f2⟩,f3⟩:=V.o.AD;obtain⟨⟨⟨z0,z1⟩,z2⟩,z3⟩:=V.o.cells;clear dy y0 y1 y2
   go_region
   all_goals
    go_wp2_with fail
    (try simp only[QIy,Exit.then])
    have S:=Fh (w:=((((w8.setCell ⟨rb,0,none⟩ (.int .u64 p.run)).setCell ⟨rb,1,none⟩ (.int .i64 p.node)).setCell ⟨rb,2,none⟩ (.int .i64 (tr+1))).setCell ⟨rb,3,none⟩ (.int .u64 tk)).drew) ((V.o.set p.run p.node (tr+1) tk).at_ rfl);refine bodyPost_ret (v:=.tuple #[WW p.run p.node (tr+1) tk,.bool true,.nilIface]) (by rw[Zbo rfl];simp[QDt,asAddr,S,WW]) rfl ?_;obtain⟨I,K,bp,Q⟩:=fm.o;obtain⟨⟨l3,bo,jd⟩,bf⟩:=fq.o;have dr:PF M w8 P B Ck:=(bp.trans (PF.Ae (ZV.drew))).trans bf
    have jb:ec.time=(now:Int):=by
     have e1:ec.time=e.time:=by rw[O.o.2];rfl
     rw[e1];exact Y.o.2.1
    have j0:=H6.o.1.KU dr jd jb;have A:=D.o.2.1;have jk:=A.Rh;have gi:=A.Ub
    have gp:Ch qh w8 P B ob (Mb e q i p.node) (rs.set i r') l3:=by
     refine j0.times (i:=i) (k:=p.node) (g:=fun s=>{ s with fin:=Zao e.time ((e.at_ i).fl.cl p.node),BM:=e.timers+1,sign:=if (e.at_ i).fl.be p.node > 0 then Zao e.time ((e.at_ i).fl.be p.node) else 0,Bg:=if (e.at_ i).fl.be p.node > 0 then e.timers+2 else s.Bg }) ?_ (fun _=>⟨rfl,rfl,rfl⟩) ?_ (by rw[O.o.2];rfl) (by rw[O.o.2];rfl) (by rw[O.o.2];rfl) ?_ (by rw[O.o.2];rfl)
     .rw[O.o.2]
      show i<(Ab.AL _ i _).runs.length;rw[Zbk];exact d.o.1
     .rw[O.o.2,Li,aw.o,fw.o]
      rfl
     .rw[O.o.2,aw.o];rfl
    have gx:Bf (Mb e q i p.node) l3:=by
     have e1:Za2 now (now+cl)=Zao e.time ((e.at_ i).fl.cl p.node):=by rw[Y.o.2.1,<-H.o.1];exact Zc6 (by rw[H.o.1];exact gi)
     have gd:Bk l2:=K.apart;rw[Q,d.o.2.2.1,e1] at gd;rw[d.o.2.2.1] at I;refine Xb wk d.o.1 d.o.2.1 d.o.2.2.2.1 HX.o.2 Y.o.1.wh.apart I gd ?_;rw[Q,d.o.2.2.1,e1,H.o.2] at bo;rcases bo with⟨q1,q2⟩ | ⟨q1,y,l4,q2,q3⟩
     .exact Zu ⟨q1,q2⟩
     .refine Zj ⟨by omega,y,l4,q2,?_⟩
      have e2:Za2 now (now+(e.at_ i).fl.be p.node)=Zao e.time ((e.at_ i).fl.be p.node):=by rw[Y.o.2.1];exact Zc6 (by omega)
      rw[q3,e2];have e3:e.timers+1+1=e.timers+2:=by omega
      rw[e3]
    have C:=d.o.2.2.2.2.2.1;rw[<-fw.o,<-aw.o] at C;refine Zj ⟨p,_,_,_,0,w8,rb,C,rfl,BX.ok HN.o.2 gp gx ((H6.o.2.2.1.trans (KF.DL dr ob) (As.refl _ _))) (As.refl _ _),(AA.Jo w8 rb _ _ _ _).drew,Nat.le_of_eq u.o.1.symm,⟨_,_,V.o.Au⟩⟩
  .rw[Zan hv]
   have HV:=Zz hv;have E:=Zz ay;obtain⟨⟨⟨f0,f1⟩,f2⟩,f3⟩:=z.o.AD;obtain⟨⟨⟨z0,z1⟩,z2⟩,z3⟩:=z.o.cells;clear hv ay gh c2;go_wp2_with fail
   (try simp only[QIy,Exit.then])
   have S:=Fh (z.o.set 0 0 0 0);refine bodyPost_ret (v:=.tuple #[KP,.bool false,.iface 32 (.int .i64 v)]) (by rw[Zbo rfl];simp[QDt,asAddr,S,KP]) rfl ?_;refine Zj ⟨p,_,_,_,v,w1,rb,d.o.2.2.2.2.2.1,?_,BX.err HV.o HN.o.2 E.o HX.o.2,AA.Jo w1 rb _ _ _ _,Nat.le_of_eq u.o.1.symm,⟨_,_,z.o.Au⟩⟩;unfold OM;rw[if_neg HV.o,Zan HV.o]
