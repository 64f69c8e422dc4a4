import Derived.Test.YtgdcjccbdmcebaaGreatDoorM33
set_option linter.unusedSimpArgs false
set_option linter.unusedVariables false
set_option maxHeartbeats 4000000
set_option maxRecDepth 100000
open Go.Proofs.Tryz
namespace Go.Proofs.YtgdcjccbdmcebaaGreatDoor
open Go.RowKit
attribute [local go_sem ↓] Go.wp_at_zero Go.wp_at_succ
variable {Na:Nat->Option Addr}{w' w:World}{rs:List Aq}{ob:Option Nat}{el:List Int}{Nc:Nat->Nat}{a ka:Option Addr}{P B o k i:Nat}{l:List Tm}{cs:Array Value}{e:Ab}{F:Ad}{S:Nat->Prop}{fr:Nat×Nat}{qu:List AZ}{r:Aq}
theorem Yn {α:Type}{z:α}{l:List α}(b:o<l.length):(CI l o).getD i z=l.getD (if i<o then i else i+1) z:=LJ l o i b
theorem Rv (b:o<rs.length):Am (CI rs o) i=Am rs (if i<o then i else i+1):=Yn (z:=Aq.z) b
theorem GF.known {g:Nat}(h:Ax w w' g)(j:P<w.heap.size)(hg:P≠g)(v:Value):GF w (w'.setCell ⟨P,4,none⟩ v) P (fun o=>o=4) (fun k=>k=g):=by
 have b:=h.gf j hg;have d:=GF.set w' P 4 v;exact⟨Zv b.size d.size,fun k f c m=>(d.block k (Zy f b.size) c (fun x=>x)).trans (b.block k f c m),fun o n=>(d.off o n).trans (b.off o (fun x=>x)),fun o=>(d.AE o).trans (b.AE o)⟩
theorem KF.known {g:Nat}(h:Ax w w' g)(p:P<w.heap.size)(hg:P≠g)(s:B<=g)(hh:w.heap[g]? =some (.cells cs 266 fr))(v:Value)(ob:Option Nat):KF w (w'.setCell ⟨P,4,none⟩ v) P B ob:=by
 have b:=GF.known h p hg v;refine⟨h.os,h.tape,h.output,b.size,fun k q d f=>b.block k q d (fun e=> ?_),fun _ o u=>b.off o (by omega),fun _ o=>b.AE o⟩;subst e;rcases f with f | ⟨j,t,m,c,_,_,n,_⟩
 ·omega
 ·rw[hh] at c
  simp only[Option.some.injEq,Obj.cells.injEq] at c;exact n c.2.1.symm
theorem Er.known {g:Nat}{d:List Aq}{now:Nat}{lr lt sd:Int}(h:Er w P B ob rs el qu now l lr lt sd)(hf:GF w w' P (fun o=>o=4) (fun k=>k=g))(hh:w.heap[g]? =some (.cells cs 266 fr))(m:∃ka y,Co w' P B ka y d):Er w' P B ob d el qu now l lr lt sd:=by
 obtain⟨a,n,c,f,z,v,j⟩:=h.en;obtain⟨q,n',s,u,p,x⟩:=h.qu
 refine⟨m,⟨a,n,c,f,z,v.gf hf (fun o _ _=>by omega) (fun k cs t fr _ e b _=>Zai e hh (by subst b;decide)),j⟩,⟨q,n',s,u,p,x.gf hf (fun o _ _=>by omega) (fun k cs t fr _ e b=>Zai e hh (by subst b;decide))⟩,
  h.wh.gf hf (fun o _ _=>by omega) (fun k cs t fr _ e b=>Zai e hh (by subst b;decide)) (fun k es c _ e m=>by subst m;rw[hh] at e;cases e),(hf.off 728 (by omega)).trans h.lr,(hf.off 729 (by omega)).trans h.lt,(hf.off 730 (by omega)).trans h.sd,fun o=>(hf.AE o).trans (h.fz o)⟩
theorem Co.cut {g u:Nat}(h:Co w P B (some ⟨g,0,none⟩) u rs)(E:o<rs.length)(s:By w' B 266 1 Lm (some ⟨g,0,none⟩) u (CI rs o))(hf:Ax w w' g):Co (w'.setCell ⟨P,4,none⟩ (.slice (some ⟨g,0,none⟩) (CI rs o).length u)) P B (some ⟨g,0,none⟩) u (CI rs o):=by
 have D:P<w.heap.size:=Zy h.pb h.bs;obtain⟨_,cur,e,G,_,_,_,hh⟩:=Zdt h.row (by omega);obtain rfl:g=_:=by simpa using e
 have d:P≠g:=by have:=h.pb;omega
 have f:=GF.known hf D d (.slice (some ⟨g,0,none⟩) (CI rs o).length u);have hl:=Zeu E;have b:∀i,i<(CI rs o).length->∃j,j<rs.length/\Am (CI rs o) i=Am rs j/\(j=if i<o then i else i+1):=fun i hi=>⟨_,by split<;>omega,Rv E,rfl⟩
 refine⟨?_,fun x=>(f.AE x).trans (h.fz x),?_,fun i hi=> ?_,fun i j hi q e=> ?_,fun i j hi q e=> ?_,h.pb,Zv h.bs f.size,by have:=h.Bs;omega⟩
 ·have:=hf.block P D d
  have p:w'.cell? ⟨P,4,none⟩=w.cell? ⟨P,4,none⟩:=World.cell?_of_block (a:=⟨P,4,none⟩) this;exact World.cell?_setCell_same _ _ _ (p.trans h.c)
 ·exact Zed s (Ne.symm d) _
 ·obtain⟨j,q,e,_⟩:=b i hi
  rw[e];refine (h.runs j q).Cx (fun k cs t fr I e H=>f.block k (Zaa e) (by have:=h.pb;omega) (Zai e hh (by rcases H with rfl | rfl | rfl<;>decide)))
 ·obtain⟨A,m,v,y⟩:=b i hi
  obtain⟨C,n,p,z⟩:=b j q;rw[v,p] at e;have:=h.bA A C m n e;rw[y,z] at this
  split at this<;>split at this<;>omega
 ·obtain⟨A,m,v,y⟩:=b i hi
  obtain⟨C,n,p,z⟩:=b j q;rw[v,p] at e;have:=h.gA A C m n e;rw[y,z] at this
  split at this<;>split at this<;>omega
theorem Gx.first (h:Gx el e)(wk:Ao e)(D:Zda e.runs e.runs.length=some o):∃g,el=(e.at_ o).id::g/\Gx g (e.cut o):=by
 obtain⟨is,rfl,q,y⟩:=h;obtain⟨o1,o2,o3⟩:=DO D;have hm:o∈is:=(q o).2 ⟨o1,o2⟩
 cases is with
 | nil=>cases hm
 | cons a is =>
  have A:a=o:=by
   have s:=List.pairwise_cons.1 y;rcases List.mem_cons.1 hm with t | t
   ·exact t.symm
   ·have m:=s.1 o t
    have f:=(q a).1 (List.mem_cons_self ..);have n:=o3 a f.1 f.2;have:(e.at_ a).ended<(e.at_ o).ended:=m;have:(e.at_ o).ended<=(e.at_ a).ended:=n;omega
  subst A;have s:=List.pairwise_cons.1 y
  have p:∀i,i∈is->i≠a:=fun i hi z=>by
   have:=s.1 i hi;rw[z] at this;omega
  have C:=Zet e o1
  have d:∀i,i∈is->(e.cut a).at_ (if i<a then i else i - 1)=e.at_ i:=fun i hi=>by
   have:=p i hi;rw[Gd e o1];by_cases c:i<a
   ·rw[if_pos c,if_pos c]
   ·rw[if_neg c,if_neg (by omega),show i - 1+1=i by omega]
  refine⟨is.map (fun i=>(e.at_ i).id),by simp,is.map (fun i=>if i<a then i else i - 1),?_,fun i=> ?_,?_⟩
  ·rw[List.map_map]
   refine List.map_congr_left (fun i hi=> ?_);simp only[Function.comp];rw[d i hi]
  ·rw[List.mem_map]
   constructor
   ·rintro⟨j,b,rfl⟩
    have f:=(q j).1 (List.mem_cons_of_mem _ b);have:=p j b;rw[d j b];refine⟨?_,f.2⟩;have:=f.1
    split<;>omega
   ·rintro⟨t,m⟩
    rw[Gd e o1] at m;obtain⟨j,b⟩:∃j,j=if i<a then i else i+1:=⟨_,rfl⟩
    rw[<-b] at m;have v:j≠a:=by rw[b];split<;>omega
    have x:j<e.runs.length:=by rw[b];split<;>omega
    have f:=(q j).2 ⟨x,m⟩;rcases List.mem_cons.1 f with n | n
    ·exact absurd n v
    ·refine⟨j,n,?_⟩
     rw[b];by_cases c:i<a
     ·rw[if_pos c,if_pos c]
     ·rw[if_neg c,if_neg (by omega)];omega
  ·rw[List.pairwise_map]
   refine s.2.imp_of_mem (fun {i j} hi b u=> ?_);rw[d i hi,d j b];exact u
theorem UW (b:o<e.runs.length)(f:(e.at_ o).st≠1)(t:Tm):BF (e.cut o) t↔BF e t:=by
 have hl:=Zet e b;constructor
 ·rintro⟨i,hi,h⟩
  rw[Gd e b] at h;exact⟨_,by split<;>omega,h⟩
 ·rintro⟨i,hi,h⟩
  have g:i≠o:=fun d=>f (by rw[<-d];exact h.1)
  refine⟨if i<o then i else i - 1,by split<;>omega,?_⟩;rw[Gd e b];by_cases c:i<o
  ·rw[if_pos c,if_pos c];exact h
  ·rw[if_neg c,if_neg (by omega),show i - 1+1=i by omega];exact h
theorem Be.cut (h:Be e l)(c:o<e.runs.length)(b:(e.at_ o).st≠1):Be (e.cut o) l:=by
 rw[Zbc] at h ⊢;exact⟨h.1,fun t=>(h.2 t).trans (UW c b t).symm⟩
theorem OG (w:World)(P B:Nat)(ob:Option Nat)(e:Ab)(rs:List Aq)(l:List Tm)(o:Nat)(h:Cj w P B ob e rs l)(wk:Ao e)(hT:Be e l)(ho:Zda e.runs e.runs.length=some o) :
  Calls prog 196 #[.pointer (some ⟨P,4,none⟩)] w fun x w'=>x= .returned (.tuple #[])/\Cj w' P B ob (e.cut o) (CI rs o) l/\Be (e.cut o) l/\KF w w' P B ob:=by
 obtain⟨el,now,D,A,O⟩:=h.ex;obtain⟨o1,o2,_⟩:=DO ho;have ay:(e.at_ o).st≠1:=fun x=>by have:=((wk.runs o o1).goes).1 x;have o2:0<(e.at_ o).ended:=o2;omega
 obtain⟨G,rfl,d⟩:=O.first wk ho;obtain⟨ea,en,ec,ef,ae,b,y⟩:=D.en;obtain⟨ka,E,p⟩:=D.kn;have f:o<rs.length:=by rw[h.len];exact o1
 obtain⟨g,hg,aw,bj,au,bh,_⟩:=p.ptr (by omega);subst hg;obtain⟨id,m⟩:∃id,id=(e.at_ o).id:=⟨_,rfl⟩;rw[<-m] at b D;have bf:=D.pb;have M:=Zz (TH w P B en ec ef ea ae G id b);have v:P≠g:=by omega
 have HP:=Zz (Zq h (Zq D (Zq A (Zq d (Zq b (Zq y (Zq p (Zq f (Zq m (Zq o1 v))))))))));have ax:=p.Bs;obtain⟨n,hn⟩:∃n,n=rs.length:=⟨_,rfl⟩;have HN:=Zz hn;rw[<-hn] at aw ax;clear h D A d b y p m O f hn
 go_enter func196,ntmps196
 go_upto_region 1 with (go_at_call 266;refine M.o.mono ?_;rintro _ J ⟨rfl,hp⟩;have HQ:=Zz hp;clear hp)
 have b9:w.heap.size<=J.heap.size:=by obtain⟨_,_,_,q⟩:=HQ.o;exact q.size
 obtain⟨s,H⟩:∃s,s=J.alloc (.cells #[.int .u64 id] 27):=⟨_,rfl⟩;obtain⟨fx,K⟩:∃fx,fx=J.heap.size:=⟨_,rfl⟩;rw[<-H,<-K];have az:P<J.heap.size:=by omega
 have z:Below J.heap.size J s:=by rw[H];exact (Zk _ _).alloc (Zx _) _
 have N:s.heap[fx]? =some (.cells #[.int .u64 id] 27 (0,0)):=by rw[H,K];exact heap_alloc_new J _
 have H2:=Zz (show ∃Z I,Er s P B ob rs G e.queue now l e.Ah e.Ai e.At/\Co s P B (some ⟨g,0,none⟩) E rs/\KF w s P B ob/\FE s B g E fx rs o id/\Gw s P B ea en ec Z I G by
  obtain⟨h,D,A,d,b,y,p,f,m,o1,v⟩:=HP.o;obtain⟨Z,I,k1,k2⟩:=HQ.o;have ag:=D.ended b k2 ⟨_,_,_,_,_,k1,y⟩
  have U:Co J P B (some ⟨g,0,none⟩) E rs:=p.gf (GF.Wo k2 D.pl) (by omega) (fun k cs t fr hB e ht R=>by
   rcases b.row.2 with⟨C,_⟩ | ⟨g',cap,cur,C,hg,hh,_⟩
   ·rw[C] at R;simp[Value.ownBlock] at R
   ·rw[C] at R
    simp only[Value.ownBlock,Option.some.injEq] at R;exact Zai e hh (by rcases ht with rfl | rfl | rfl | rfl<;>decide) R)
  have T:=KF.Wp b k2;rw[y] at T;have u:=U.below z;refine⟨Z,I,ag.below z,u,T.trans (KF.Ae P B ob z) (As.refl _ _),⟨u.row,fun j hj=>⟨_,_,(u.runs j hj).top,rfl⟩,N,f,?_,fun j hj av=> ?_,u.Bs⟩,k1.below z⟩
  ·rw[(h.runs o o1).id];exact m.symm
  ·have Q:j<e.runs.length:=by rw[<-h.len];exact hj
   rw[(h.runs j Q).id,m];exact fun x=>av (wk.CA Q o1 x))
 have c4:s.cell? ⟨P,4,none⟩=some (.slice (some ⟨g,0,none⟩) n E):=by
  obtain⟨_,_,_,C,_⟩:=H2.o;rw[HN.o];exact C.c
 have HD:=Zz (show Calls prog 267 #[.slice (some ⟨g,0,none⟩) n E, .func (.func 268) #[] #[.pointer (some ⟨fx,0,none⟩)]] s fun x L=>x= .returned (.slice (some ⟨g,0,none⟩) (CI rs o).length E)/\By L B 266 1 Lm (some ⟨g,0,none⟩) E (CI rs o)/\Ax s L g/\(L.cell? ⟨P,4,none⟩=some (.slice (some ⟨g,0,none⟩) n E)/\L.frozen? ⟨P,4,none⟩=false) by
  obtain⟨_,_,_,C,_,h4,_⟩:=H2.o;have:=UN s B g E fx rs o id h4;rw[<-HN.o] at this;refine this.mono ?_;rintro x L ⟨rfl,q1,q2⟩;have al:P<s.heap.size:=Zy C.pb C.bs;have e1:=q2.block P al v;refine⟨rfl,q1,q2,?_,?_⟩
  ·rw[HN.o];exact (World.cell?_of_block (a:=⟨P,4,none⟩) e1).trans C.c
  ·exact (World.frozen?_of_block (a:=⟨P,4,none⟩) e1).trans (C.fz 4))
 clear H K z N;go_wp2_with (go_at_call 267;refine HD.o.mono ?_;rintro _ L ⟨rfl,X,W,z1,z2⟩;have Y:=Zz (Zq X W);clear X W)
 go_end0
 obtain⟨Z,I,m1,m2,m3,m4,m5⟩:=H2.o;obtain⟨h,D,A,d,b,y,p,f,m,o1,v⟩:=HP.o
 obtain⟨cs,hh⟩:∃cs,s.heap[g]? =some (.cells cs 266 (0,0)):=by
  obtain⟨_,cur,e,_,_,_,_,hh⟩:=Zdt m4.row (by omega);obtain rfl:g=_:=by simpa using e
  exact⟨cur,hh⟩
 have ar:=GF.known Y.o.2 m1.pl v (.slice (some ⟨g,0,none⟩) (CI rs o).length E);have V:=m2.cut f Y.o.1 Y.o.2;have aj:=m1.known ar hh ⟨_,_,V⟩;refine⟨rfl,⟨⟨G,now,aj,A,d⟩,?_,fun i hi=> ?_⟩,hT.cut o1 ay,m3.trans (KF.known Y.o.2 m1.pl v au hh _ ob) (As.refl _ _)⟩
 ·have:=Zeu f
  have:=Zet e o1;have:=h.len;omega
 ·have:=Zet e o1
  rw[Rv f,Gd e o1];exact h.runs _ (by split<;>omega)
open Go.RowKit
theorem An.nf {P c:Nat}(h:An B w F (.slice a F.n c) k Na Nc)(f:∀g cs t fr,B<=g->w.heap[g]? =some (.cells cs t fr)->(t=130\/t=3)->w'.heap[g]? =w.heap[g]?):An B w' F (.slice a F.n c) k Na Nc:=by
 have key:∀{e:TypeId} {size n:Nat} {v:Value} {xs:List Value},(e=130\/e=3)->w.ownsRow B e size v n xs->w'.ownsRow B e size v n xs:=by
  intro e size n v xs he d;refine⟨d.1,?_⟩;rcases d.2 with b | ⟨g,cap,cur,b,hg,hh,r⟩
  ·exact Zu b
  ·exact Zj ⟨g,cap,cur,b,hg,(f g _ _ _ hg hh he).trans hh,r⟩
 exact⟨key (Zu rfl) h.own,fun i hi=>key (Zj rfl) (h.ID i hi)⟩
theorem An.side {c:Nat}(h:An B w F (.slice a F.n c) k Na Nc)(hn:NF w w' P B):An B w' F (.slice a F.n c) k Na Nc :=
 h.nf (P:=P) (fun g cs t fr hg e b=>hn.block g cs t fr hg e (by unfold Rl;rcases b with rfl | rfl<;>simp))
theorem An.kf {c:Nat}(h:An B w F (.slice a F.n c) k Na Nc)(hf:KF w w' P B ob)(d:P<B):An B w' F (.slice a F.n c) k Na Nc :=
 h.nf (P:=P) (fun g cs t fr hg e b=>hf.block g (Zaa e) (by omega) (Zj ⟨cs,t,fr,e,by rcases b with rfl | rfl<;>decide,by rcases b with rfl | rfl<;>decide,by rcases b with rfl | rfl<;>decide,by rcases b with rfl | rfl<;>decide,by rcases b with rfl | rfl<;>decide,fun x=>by rcases b with rfl | rfl<;>exact absurd x (by decide)⟩))
theorem Br.fresh (f:r.id=e.Ah+1)(g:r.st=1)(d:r.ns=Zcv F Na Nc F.n):Br r (e.fresh F):=by
 have c:∀k,k<F.n->r.at_ k=Zdo F Na Nc k:=fun k b=>by unfold Aq.at_;rw[d];exact LI b
 have hl:=Zb7 e F;refine⟨f,g,by rw[d,JR,hl],fun k b=> ?_,fun _ k b=> ?_,fun h=>absurd rfl h⟩
 ·rw[hl] at b
  rw[c k b,Zdh e F b];exact⟨rfl,rfl⟩
 ·rw[hl] at b
  rw[c k b,Zdh e F b];exact⟨rfl,rfl,rfl,rfl,rfl,rfl,rfl,rfl⟩
theorem Gx.more (h:Gx el e):Gx el (e.more F):=by
 obtain⟨is,rfl,g,m⟩:=h;have b:∀i,i∈is->i<e.runs.length:=fun i hi=>((g i).1 hi).1;refine⟨is,List.map_congr_left (fun i hi=>by rw[Zb1 e F (b i hi)]),fun i=> ?_,m.imp_of_mem (fun {i j} hi n f=>by rw[Zb1 e F (b i hi),Zb1 e F (b j n)];exact f)⟩;rw[g,Za5];constructor
 ·rintro⟨q1,d⟩
  exact⟨by omega,by rw[Zb1 e F q1];exact d⟩
 ·rintro⟨q1,d⟩
  by_cases c:i<e.runs.length
  ·rw[Zb1 e F c] at d;exact⟨c,d⟩
  ·have:i=e.runs.length:=by omega
   subst this;rw[Zbj] at d;exact absurd d (by show ¬(0:Int)<0;omega)
theorem Pu (wk:Ao e)(s:1<=F.dl){d:List Tm}(m:Be e l)(n:Bj l){x:Int}(c:Cb l (Bb (e.Ah+1) (-1) 0) x d):Be (e.more F) (d++[⟨Bb (e.Ah+1) (-1) 0,Zak e.time F.dl,e.timers+1⟩]):=by
 have b:=Zbc.1 m;have hg:=c.gone n;rw[Zbc];refine⟨DR (c.rising b.1) (T:=e.timers) (fun t q=>((b.2 t).1 ((hg t).1 q).1).sq wk) (by show e.timers<e.timers+1;omega),fun t=> ?_⟩;rw[List.mem_append,List.mem_singleton,hg,b.2,SD];constructor
 ·rintro (⟨q1,u⟩ | h)
  ·exact Zu q1
  ·exact Zj h
 ·rintro (h | h)
  ·refine Zu ⟨h,fun f=> ?_⟩
   obtain⟨i,hi,p⟩:=h;have g:=p.of (wk.IQ hi);have j:IA (e.Ah+1) t:=⟨-1,0,by omega,by omega,f⟩;have:=g.uniq j;have:=wk.RD i hi;omega
  ·exact Zj h
theorem GF.knownB (h:w.grownBy w' ob)(f:P<w.heap.size)(hg:some P≠ob)(v:Value):GF w (w'.setCell ⟨P,4,none⟩ v) P (fun o=>o=4) (fun k=>some k=ob):=by
 have b:=GF.set w' P 4 v;have e:=h.block P f hg;exact⟨Zv h.size b.size,fun k d c g=>(b.block k (Zy d h.size) c (fun x=>x)).trans (h.block k d g),fun o j=>(b.off o j).trans (World.cell?_of_block (a:=⟨P,o,none⟩) e),fun o=>(b.AE o).trans (World.frozen?_of_block (a:=⟨P,o,none⟩) e)⟩
theorem Er.Ka {d:List Aq}{now:Nat}{lr lt sd:Int}(h:Er w P B ob rs el qu now l lr lt sd)(hf:GF w w' P (fun o=>o=4) S)(s:∀k,S k->∃cs fr,w.heap[k]? =some (.cells cs 266 fr))(p:∃ka C,Co w' P B ka C d):Er w' P B ob d el qu now l lr lt sd:=by
 obtain⟨a,n,c,f,D,y,m⟩:=h.en;obtain⟨u,n',v,x,q,z⟩:=h.qu
 have no:∀{k:Nat} {cs:Array Value} {t:TypeId} {fr:Nat×Nat},w.heap[k]? =some (.cells cs t fr)->t≠266->¬S k:=by
  intro k cs t fr e b A;obtain⟨g,j,hh⟩:=s k A;exact Zai e hh b rfl
 refine⟨p,⟨a,n,c,f,D,y.gf hf (fun o _ _=>by omega) (fun k cs t fr _ e b _=>no e (by subst b;decide)),m⟩,⟨u,n',v,x,q,z.gf hf (fun o _ _=>by omega) (fun k cs t fr _ e b=>no e (by subst b;decide))⟩,
  h.wh.gf hf (fun o _ _=>by omega) (fun k cs t fr _ e b=>no e (by subst b;decide)) (fun k es c _ e p=>by obtain⟨g,j,hh⟩:=s k p;rw[hh] at e;cases e),(hf.off 728 (by omega)).trans h.lr,(hf.off 729 (by omega)).trans h.lt,(hf.off 730 (by omega)).trans h.sd,fun o=>(hf.AE o).trans (h.fz o)⟩
theorem Zco (hi:i<rs.length+1):Am (rs++[r]) i=if i<rs.length then Am rs i else r:=by
 unfold Am;rw[ZQ]
 split
 ·rename_i c
  rw[List.getElem?_append_left c,ZQ]
 ·rename_i c
  have:i=rs.length:=by omega
  subst this;rw[List.getElem?_append_right (Zx _),Nat.sub_self]
  rfl
theorem Co.snoc {w7:World}{q gg f:Nat}(h:Co w P B ka q rs)(N:rs.length<6)(J:AW w B r)(D:∀i,i<rs.length->(Am rs i).b≠r.b)(hg:∀i,i<rs.length->(Am rs i).ng≠r.ng)(s:w.grownBy w7 (Value.slice ka rs.length q).ownBlock)(n:By w7 B 266 1 Lm (some ⟨gg,0,none⟩) f (rs++[r])):Co (w7.setCell ⟨P,4,none⟩ (.slice (some ⟨gg,0,none⟩) (rs.length+1) f)) P B (some ⟨gg,0,none⟩) f (rs++[r])/\GF w (w7.setCell ⟨P,4,none⟩ (.slice (some ⟨gg,0,none⟩) (rs.length+1) f)) P (fun o=>o=4) (fun k=>some k=(Value.slice ka rs.length q).ownBlock)/\(∀k,some k=(Value.slice ka rs.length q).ownBlock->∃cs fr,w.heap[k]? =some (.cells cs 266 fr))/\some P≠(Value.slice ka rs.length q).ownBlock:=by
 have C:P<w.heap.size:=Zy h.pb h.bs
 have y:∀k,some k=(Value.slice ka rs.length q).ownBlock->B<=k/\∃cs fr,w.heap[k]? =some (.cells cs 266 fr):=fun k m=>by
  rcases h.row.2 with⟨v,_⟩ | ⟨M,cap,cur,v,hg,hh,_⟩
  ·rw[v] at m;simp[Value.ownBlock] at m
  ·rw[v] at m
   simp only[Value.ownBlock,Option.some.injEq] at m;subst m;exact⟨hg,_,_,hh⟩
 have p:some P≠(Value.slice ka rs.length q).ownBlock:=fun e=>by have:=(y P e).1;have:=h.pb;omega
 have g:=GF.knownB s C p (.slice (some ⟨gg,0,none⟩) (rs.length+1) f)
 have z:gg≠P:=by
  obtain⟨_,cur,e,I,_⟩:=Zdt n (by rw[ZX,List.length_singleton];omega);obtain rfl:gg=_:=by simpa using e
  have:=h.pb;omega
 have Aj:∀r',AW w B r'->AW (w7.setCell ⟨P,4,none⟩ (.slice (some ⟨gg,0,none⟩) (rs.length+1) f)) B r':=fun r' A=>A.Cx (fun k cs t fr m e L=>g.block k (Zaa e) (by have:=h.pb;omega) (fun K=>by
  obtain⟨_,E,H,hh⟩:=y k K;exact Zai e hh (by rcases L with rfl | rfl | rfl<;>decide) rfl))
 refine⟨⟨?_,fun x=>(g.AE x).trans (h.fz x),Zed n z _,fun i hi=> ?_,fun i j hi u e=> ?_,fun i j hi u e=> ?_,h.pb,Zv h.bs g.size,by rw[ZX,List.length_singleton];omega⟩,g,fun k m=>(y k m).2,p⟩
 ·have G:w7.cell? ⟨P,4,none⟩=w.cell? ⟨P,4,none⟩:=World.cell?_of_block (a:=⟨P,4,none⟩) (s.block P C p)
  rw[ZX,List.length_singleton];exact World.cell?_setCell_same _ _ _ (G.trans h.c)
 ·rw[ZX,List.length_singleton] at hi
  rw[Zco hi]
  split
  ·rename_i c;exact Aj _ (h.runs i c)
  ·exact Aj _ J
 ·rw[ZX,List.length_singleton] at hi u
  rw[Zco hi,Zco u] at e
  split at e<;>split at e
  ·rename_i c d;exact h.bA i j c d e
  ·rename_i c d;exact absurd e (D i c)
  ·rename_i c d;exact absurd e.symm (D j d)
  ·omega
 ·rw[ZX,List.length_singleton] at hi u
  rw[Zco hi,Zco u] at e
  split at e<;>split at e
  ·rename_i c d;exact h.gA i j c d e
  ·rename_i c d;exact absurd e (hg i c)
  ·rename_i c d;exact absurd e.symm (hg j d)
  ·omega
theorem KF.Ka (h:w'.os=w.os)(c:w'.tape=w.tape)(d:w'.output=w.output)(b:GF w w' P (fun o=>o=4) S)(q:∀k,S k->B<=k/\∃cs fr,w.heap[k]? =some (.cells cs 266 fr))(ob:Option Nat):KF w w' P B ob:=by
 refine⟨h,c,d,b.size,fun k s g j=>b.block k s g (fun u=> ?_),fun _ o x=>b.off o (by omega),fun _ o=>b.AE o⟩;obtain⟨v,m,n,hh⟩:=q k u;rcases j with j | ⟨cs,t,fr,f,_,_,p,_⟩
 ·omega
 ·rw[hh] at f
  simp only[Option.some.injEq,Obj.cells.injEq] at f;exact p f.2.1.symm
end Go.Proofs.YtgdcjccbdmcebaaGreatDoor
