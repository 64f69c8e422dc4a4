import Derived.Test.YtgdcjccbdmcebaaGreatDoorM08
import Derived.Test.YtgdcjccbdmcebaaGreatDoorM11
import Derived.Test.YtgdcjccbdmcebaaGreatDoorM15
set_option linter.all false
set_option maxHeartbeats 8000000
set_option maxRecDepth 100000
open Go.Proofs.Tryz
open Bool renaming eq_iff_iff->QIo
open Function renaming comp->QIp
open Go.Obj renaming cells.injEq->QIq
open Go.Value renaming slice->QFv,ownBlock->QCi
open Go.World renaming setCell->QDw,frozen?_setCell->QEa,new_ne->QIr,cell?->QEk,cell?_setCell_same->QDz,frozen?_of_block->QDx,cell?_of_block->QEc
open List renaming map_nil->QIi,map_cons->QEg,mem_cons->QDc,length_map->QIs,mem_append->QCn,any_eq_true->QEn,getElem_mem->QAi,not_mem_nil->QCq,getElem?_map->QEp,length_range->QHq,mem_cons_self->QDa,map_congr_left->QIj,range->QAr,length_set->QAo,all_eq_true->QIt,mem_singleton->QDd
open Option renaming some.injEq->QCf
namespace Go.Proofs.YtgdcjccbdmcebaaGreatDoor
open Go.RowKit
def QuAt (w:World)(P B:Nat)(xs:List Ba):Prop:=∃a n c f ys,FV w P B a n c f ys xs
def EnAt (w:World)(P B:Nat)(ob:Option Nat)(xs:List Int):Prop:=∃a n c f ys,Gv w P B a n c f ys xs/\(QFv a n c).ownBlock=ob
structure Dq (qh:Nat)(w:World)(P B:Nat)(ob:Option Nat)(rs:List Aq)(el:List Int)(qu:List Ba)(now:Nat)(l:List Tm)(lr lt sd:Int):Prop where
 kn:∃ka kc,Cd qh w P B ka kc rs
 en:EnAt w P B ob el
 qu:QuAt w P B qu
 wh:Bh w P B Ck now l
 lr:w.cell? ⟨P,728,none⟩=some (.int .u64 lr)
 lt:w.cell? ⟨P,729,none⟩=some (.int .u64 lt)
 sd:w.cell? ⟨P,730,none⟩=some (.int .u64 sd)
 fz:∀o,w.frozen? ⟨P,o,none⟩=false
 qs:qh<w.heap.size
structure GF (w w':World)(P:Nat)(C:Nat->Prop)(S:Nat->Prop):Prop where
 size:w.heap.size<=w'.heap.size
 block:∀k,k<w.heap.size->k≠P->¬S k->w'.heap[k]? =w.heap[k]?
 off:∀o,¬C o->w'.cell? ⟨P,o,none⟩=w.cell? ⟨P,o,none⟩
 AD:∀o,w'.frozen? ⟨P,o,none⟩=w.frozen? ⟨P,o,none⟩
theorem Cd.gf {qh:Nat}{w w':World}{P B:Nat}{b:Option Addr}{c:Nat}{rs:List Aq}{C S:Nat->Prop}(h:Cd qh w P B b c rs)(g:GF w w' P C S)(hC:¬C 4)(f:∀k cs t fr,B<=k->w.heap[k]? =some (.cells cs t fr)->(t=266\/t=272\/t=276\/t=3)->¬S k):Cd qh w' P B b c rs :=
 h.Cv g.size (g.off 4 hC) g.AD (fun k cs t fr d a e=>g.block k (Zaa a) (by have:=h.pb;omega) (f k cs t fr d a e))
theorem FV.gf {w w':World}{P B n c first:Nat}{a:Option Addr}{i xs:List Ba}{C S:Nat->Prop}(h:FV w P B a n c first i xs)(g:GF w w' P C S)(hC:∀o,8<=o->o<11->¬C o)(m:∀k cs t fr,B<=k->w.heap[k]? =some (.cells cs t fr)->t=274->¬S k):FV w' P B a n c first i xs:=by
 refine h.frame g.size (fun o j d=>g.off o (hC o j d)) g.AD (fun z b=> ?_);have e:=(h.row.lt z b).1;have f:=(h.row.lt z b).2;refine g.block z f (by have:=h.pb;omega) ?_;rcases h.row.2 with⟨d,_⟩ | ⟨p,cap,cur,d,_,hh,_⟩
 .rw[d] at b;simp[QCi] at b
 .rw[d] at b
  simp only[QCi,QCf] at b;subst b;exact m _ _ _ _ e hh rfl
theorem Gv.gf {w w':World}{P B n c first:Nat}{a:Option Addr}{j xs:List Int}{C S:Nat->Prop}(h:Gv w P B a n c first j xs)(g:GF w w' P C S)(hC:∀o,5<=o->o<8->¬C o)(p:∀k cs t fr,B<=k->w.heap[k]? =some (.cells cs t fr)->t=27->(QFv a n c).ownBlock=some k->¬S k):Gv w' P B a n c first j xs:=by
 refine h.frame g.size (fun o m d=>g.off o (hC o m d)) g.AD (fun z b=> ?_);have f:=(h.row.lt z b).1;have i:=(h.row.lt z b).2;refine g.block z i (by have:=h.pb;omega) ?_;have e:=b;rcases h.row.2 with⟨d,_⟩ | ⟨q,cap,cur,d,_,hh,_⟩
 .rw[d] at b;simp[QCi] at b
 .rw[d] at b
  simp only[QCi,QCf] at b;subst b;exact p _ _ _ _ f hh rfl e
theorem Bh.gf {w w':World}{P B n:Nat}{l:List Tm}{C S:Nat->Prop}(h:Bh w P B Ck n l)(g:GF w w' P C S)(hC:∀o,11<=o->o<728->¬C o)(e:∀k cs t fr,B<=k->w.heap[k]? =some (.cells cs t fr)->t=288->¬S k)(d:∀k es c,B<=k->w.heap[k]? =some (.map es c)->¬S k):Bh w' P B Ck n l :=
 h.Cv g.size (fun o b a=>g.off o (hC o b a)) g.AD (fun k cs fr b a=>g.block k (Zaa a) (by have:=h.pb;omega) (e k _ _ _ b a rfl)) (fun k es c b a=>g.block k (Zaa a) (by have:=h.pb;omega) (d k es c b a))
theorem GF.DL {w w':World}{P B:Nat}(h:PF w w' P B Ck)(d:P<w.heap.size):GF w w' P (fun o=>11<=o/\o<728) (fun k=>¬(k<B)/\¬∃cs t fr,w.heap[k]? =some (.cells cs t fr)/\t≠288) :=
 ⟨h.size,fun k hk a e=>h.block k hk a (by
  by_cases b:k<B
  .exact Zu (Zu b)
  .by_cases c:∃cs t fr,w.heap[k]? =some (.cells cs t fr)/\t≠288
   .exact Zj c
   .exact absurd ⟨b,c⟩ e),fun o f=>h.off d o (by omega),h.AD d⟩
theorem GF.Wi {w w':World}{P:Nat}{ob:Option Nat}{lo hi:Nat}(h:RF w w' P ob lo hi)(b:P<w.heap.size):GF w w' P (fun o=>lo<=o/\o<hi) (fun k=>some k=ob) :=
 ⟨h.size,fun k hk a c=>h.block k hk a c,fun o d=>h.off b o (by omega),h.AD b⟩
theorem GF.IU {w w':World}{P b g:Nat}(h:Dm w w' b g)(d:P<w.heap.size)(hb:P≠b)(hg:P≠g):GF w w' P (fun _=>False) (fun k=>k=b\/k=g):=by
 have e:=h.block P d hb hg;exact⟨h.size,fun k hk _ c=>h.block k hk (fun x=>c (Zu x)) (fun x=>c (Zj x)),fun o _=>QEc (a:=⟨P,o,none⟩) e,fun o=>QDx (a:=⟨P,o,none⟩) e⟩
theorem GF.set (w:World)(P o:Nat)(v:Value):GF w (w.setCell ⟨P,o,none⟩ v) P (fun x=>x=o) (fun _=>False) :=
 ⟨by simp[QDw],fun k _ hk _=>Zl w ⟨P,o,none⟩ v k hk,fun x a=>Zac w P o x v (fun e=>a e.symm),fun x=>by rw[QEa]⟩
variable {w w':World} {P B:Nat} {ob:Option Nat} {rs:List Aq} {el:List Int} {qu:List Ba} {now:Nat} {l:List Tm} {lr lt sd:Int}
theorem Dq.pb {qh:Nat}(h:Dq qh w P B ob rs el qu now l lr lt sd):P<B/\B<=w.heap.size:=h.wh.pb
theorem Dq.pl {qh:Nat}(h:Dq qh w P B ob rs el qu now l lr lt sd):P<w.heap.size:=by have:=h.pb;omega
theorem Dq.below {qh:Nat}(h:Dq qh w P B ob rs el qu now l lr lt sd)(hb:ZY w w'):Dq qh w' P B ob rs el qu now l lr lt sd:=by
 have e:=hb.block P h.pl;obtain⟨q,r,k⟩:=h.kn;obtain⟨a,n,c,f,s,m,b⟩:=h.en;obtain⟨g,n',i,j,d,p⟩:=h.qu;exact⟨⟨q,r,k.below hb⟩,⟨a,n,c,f,s,m.below hb,b⟩,⟨g,n',i,j,d,p.below hb⟩,h.wh.Ak hb,(QEc (a:=⟨P,728,none⟩) e).trans h.lr,(QEc (a:=⟨P,729,none⟩) e).trans h.lt,(QEc (a:=⟨P,730,none⟩) e).trans h.sd,fun o=>(QDx (a:=⟨P,o,none⟩) e).trans (h.fz o),Zy h.qs hb.size⟩
theorem Dq.Dh {qh:Nat}(h:Dq qh w P B ob rs el qu now l lr lt sd)(hf:PF w w' P B Ck){b:Nat}{p:List Tm}(hw:Bh w' P B Ck b p):Dq qh w' P B ob rs el qu b p lr lt sd:=by
 have g:=GF.DL hf h.pl;obtain⟨y,z,u⟩:=h.kn;obtain⟨a,n,c,f,A,v,j⟩:=h.en;obtain⟨q,n',r,s,m,x⟩:=h.qu
 refine⟨⟨y,z,u.gf g (by omega) (fun k cs t fr _ e i d=>d.2 ⟨cs,t,fr,e,by rcases i with rfl | rfl | rfl | rfl<;>decide⟩)⟩,
  ⟨a,n,c,f,A,v.gf g (fun o _ _=>by omega) (fun k cs t fr _ e i _ d=>d.2 ⟨cs,t,fr,e,by subst i;decide⟩),j⟩,
  ⟨q,n',r,s,m,x.gf g (fun o _ _=>by omega) (fun k cs t fr _ e i d=>d.2 ⟨cs,t,fr,e,by subst i;decide⟩)⟩,hw,(g.off 728 (by omega)).trans h.lr,(g.off 729 (by omega)).trans h.lt,(g.off 730 (by omega)).trans h.sd,fun o=>(g.AD o).trans (h.fz o),Zy h.qs g.size⟩
theorem Dq.queue {qh:Nat}(h:Dq qh w P B ob rs el qu now l lr lt sd){a0:Option Addr}{n0 c0 f0:Nat}{p:List Ba}(r:FV w P B a0 n0 c0 f0 p qu)(hf:RF w w' P (QFv a0 n0 c0).ownBlock 8 11){i:List Ba}(hw:QuAt w' P B i):Dq qh w' P B ob rs el i now l lr lt sd:=by
 have g:=GF.Wi hf h.pl
 have hb:∀k,some k=(QFv a0 n0 c0).ownBlock->∃cs,w.heap[k]? =some (.cells cs 274 (0,0)):=by
  intro k hk;rcases r.row.2 with⟨d,_⟩ | ⟨x,cap,cur,d,_,hh,_⟩
  .rw[d] at hk;simp[QCi] at hk
  .rw[d] at hk
   simp only[QCi,QCf] at hk;subst hk;exact⟨cur,hh⟩
 have no:∀{k:Nat} {cs:Array Value} {t:TypeId} {fr:Nat×Nat},w.heap[k]? =some (.cells cs t fr)->t≠274->¬some k=(QFv a0 n0 c0).ownBlock:=by
  intro k cs t fr e b hk;obtain⟨c2,j⟩:=hb k hk;exact Zah e j b rfl
 obtain⟨s,u,q⟩:=h.kn;obtain⟨a,n,c,f,v,d,m⟩:=h.en
 refine⟨⟨s,u,q.gf g (by omega) (fun k cs t fr _ e b=>no e (by rcases b with rfl | rfl | rfl | rfl<;>decide))⟩,
  ⟨a,n,c,f,v,d.gf g (fun o _ _=>by omega) (fun k cs t fr _ e b _=>no e (by subst b;decide)),m⟩,hw,
  h.wh.gf g (fun o _ _=>by omega) (fun k cs t fr _ e b=>no e (by subst b;decide)) (fun k es c _ e hk=>by obtain⟨c2,j⟩:=hb k hk;rw[e] at j;cases j),(g.off 728 (by omega)).trans h.lr,(g.off 729 (by omega)).trans h.lt,(g.off 730 (by omega)).trans h.sd,fun o=>(g.AD o).trans (h.fz o),Zy h.qs g.size⟩
theorem Dq.ended {qh:Nat}(h:Dq qh w P B ob rs el qu now l lr lt sd){a0:Option Addr}{n0 c0 f0:Nat}{p:List Int}(r:Gv w P B a0 n0 c0 f0 p el)(hf:RF w w' P (QFv a0 n0 c0).ownBlock 5 8){j:Option Nat}{d:List Int}(hw:EnAt w' P B j d):Dq qh w' P B j rs d qu now l lr lt sd:=by
 have g:=GF.Wi hf h.pl
 have hb:∀k,some k=(QFv a0 n0 c0).ownBlock->∃cs,w.heap[k]? =some (.cells cs 27 (0,0)):=by
  intro k hk;rcases r.row.2 with⟨i,_⟩ | ⟨x,cap,cur,i,_,hh,_⟩
  .rw[i] at hk;simp[QCi] at hk
  .rw[i] at hk
   simp only[QCi,QCf] at hk;subst hk;exact⟨cur,hh⟩
 have no:∀{k:Nat} {cs:Array Value} {t:TypeId} {fr:Nat×Nat},w.heap[k]? =some (.cells cs t fr)->t≠27->¬some k=(QFv a0 n0 c0).ownBlock:=by
  intro k cs t fr e b hk;obtain⟨c2,m⟩:=hb k hk;exact Zah e m b rfl
 obtain⟨s,u,q⟩:=h.kn;obtain⟨a,n,c,f,v,i⟩:=h.qu
 refine⟨⟨s,u,q.gf g (by omega) (fun k cs t fr _ e b=>no e (by rcases b with rfl | rfl | rfl | rfl<;>decide))⟩,hw,
  ⟨a,n,c,f,v,i.gf g (fun o _ _=>by omega) (fun k cs t fr _ e b=>no e (by subst b;decide))⟩,
  h.wh.gf g (fun o _ _=>by omega) (fun k cs t fr _ e b=>no e (by subst b;decide)) (fun k es c _ e hk=>by obtain⟨c2,m⟩:=hb k hk;rw[e] at m;cases m),(g.off 728 (by omega)).trans h.lr,(g.off 729 (by omega)).trans h.lt,(g.off 730 (by omega)).trans h.sd,fun o=>(g.AD o).trans (h.fz o),Zy h.qs g.size⟩
theorem Dq.run {qh:Nat}(h:Dq qh w P B ob rs el qu now l lr lt sd){i:Nat}(hi:i<rs.length){r':Aq}(E:AR qh w' B r')(hb:r'.b=(Am rs i).b)(hg:r'.ng=(Am rs i).ng)(hf:Dm w w' (Am rs i).b (Am rs i).ng):Dq qh w' P B ob (rs.set i r') el qu now l lr lt sd:=by
 obtain⟨F,G,m⟩:=h.kn;obtain⟨I,p,_,_,D,_⟩:=(m.runs i hi).Bj;have j:=(m.runs i hi).top;have r:P≠(Am rs i).b:=by have:=(m.runs i hi).bb;have:=m.pb;omega
 have s:P≠(Am rs i).ng:=by have:=m.pb;omega
 have g:=GF.IU hf h.pl r s
 have no:∀{k:Nat} {cs:Array Value} {t:TypeId} {fr:Nat×Nat},w.heap[k]? =some (.cells cs t fr)->t≠272->t≠276->¬(k=(Am rs i).b\/k=(Am rs i).ng):=by
  intro k cs t fr e d u hk;rcases hk with hk | hk
  .exact Zah e j d hk
  .exact Zah e p u hk
 obtain⟨a,n,c,f,H,A,q⟩:=h.en;obtain⟨x,n',y,z,v,C⟩:=h.qu
 refine⟨⟨F,G,m.AL hi E hb hg hf⟩,⟨a,n,c,f,H,A.gf g (fun o _ _ h=>h) (fun k cs t fr _ e d _=>no e (by subst d;decide) (by subst d;decide)),q⟩,⟨x,n',y,z,v,C.gf g (fun o _ _ h=>h) (fun k cs t fr _ e d=>no e (by subst d;decide) (by subst d;decide))⟩,
  h.wh.gf g (fun o _ _ h=>h) (fun k cs t fr _ e d=>no e (by subst d;decide) (by subst d;decide)) (fun k es c _ e hk=>by
   rcases hk with hk | hk
   .subst hk;rw[j] at e;cases e
   .subst hk;rw[p] at e;cases e),(g.off 728 (fun h=>h)).trans h.lr,(g.off 729 (fun h=>h)).trans h.lt,(g.off 730 (fun h=>h)).trans h.sd,fun o=>(g.AD o).trans (h.fz o),Zy h.qs g.size⟩
theorem Dq.num {qh:Nat}(h:Dq qh w P B ob rs el qu now l lr lt sd)(o:Nat)(v b d e:Int)(j:(o=728/\b=v/\d=lt/\e=sd)\/(o=729/\b=lr/\d=v/\e=sd)\/(o=730/\b=lr/\d=lt/\e=v)):Dq qh (w.setCell ⟨P,o,none⟩ (.int .u64 v)) P B ob rs el qu now l b d e:=by
 have g:=GF.set w P o (.int .u64 v);obtain⟨u,y,r⟩:=h.kn;obtain⟨a,n,c,f,z,s,i⟩:=h.en;obtain⟨m,n',p,q,k,t⟩:=h.qu;refine⟨⟨u,y,r.gf g (by omega) (fun _ _ _ _ _ _ _ h=>h)⟩,⟨a,n,c,f,z,s.gf g (fun o _ _=>by omega) (fun _ _ _ _ _ _ _ _ h=>h),i⟩,⟨m,n',p,q,k,t.gf g (fun o _ _=>by omega) (fun _ _ _ _ _ _ _ h=>h)⟩,h.wh.gf g (fun o _ _=>by omega) (fun _ _ _ _ _ _ _ h=>h) (fun _ _ _ _ _ h=>h),?_,?_,?_,fun x=>(g.AD x).trans (h.fz x),Zy h.qs g.size⟩
 .rcases j with⟨rfl,rfl,rfl,rfl⟩ | ⟨rfl,rfl,rfl,rfl⟩ | ⟨rfl,rfl,rfl,rfl⟩
  .exact QDz _ _ _ h.lr
  .exact (g.off 728 (by omega)).trans h.lr
  .exact (g.off 728 (by omega)).trans h.lr
 .rcases j with⟨rfl,rfl,rfl,rfl⟩ | ⟨rfl,rfl,rfl,rfl⟩ | ⟨rfl,rfl,rfl,rfl⟩
  .exact (g.off 729 (by omega)).trans h.lt
  .exact QDz _ _ _ h.lt
  .exact (g.off 729 (by omega)).trans h.lt
 .rcases j with⟨rfl,rfl,rfl,rfl⟩ | ⟨rfl,rfl,rfl,rfl⟩ | ⟨rfl,rfl,rfl,rfl⟩
  .exact (g.off 730 (by omega)).trans h.sd
  .exact (g.off 730 (by omega)).trans h.sd
  .exact QDz _ _ _ h.sd
open Go.RowKit
structure KF (w w':World)(P B:Nat)(ob:Option Nat):Prop where
 os:w'.os=w.os
 tape:w'.tape=w.tape
 output:w'.output=w.output
 size:w.heap.size<=w'.heap.size
 block:∀k,k<w.heap.size->k≠P->(k<B\/∃cs t fr,w.heap[k]? =some (.cells cs t fr)/\t≠288/\t≠274/\t≠266/\t≠272/\t≠276/\(t=27->some k≠ob))->w'.heap[k]? =w.heap[k]?
 off:P<w.heap.size->∀o,o<4->w'.cell? ⟨P,o,none⟩=w.cell? ⟨P,o,none⟩
 AD:P<w.heap.size->∀o,w'.frozen? ⟨P,o,none⟩=w.frozen? ⟨P,o,none⟩
def As (w:World)(ob ob':Option Nat):Prop:=∀k,ob'=some k->ob=some k\/w.heap.size<=k
theorem As.refl (w:World)(ob:Option Nat):As w ob ob:=fun _ h=>Zu h
theorem As.trans {x y:World}{a b c:Option Nat}(h:As x a b)(g:As y b c)(e:x.heap.size<=y.heap.size):As x a c:=fun k hk=>by
 rcases g k hk with d | d
 .exact h k d
 .exact Zj (Zv e d)
theorem KF.refl (w:World)(P B:Nat)(ob:Option Nat):KF w w P B ob:=⟨rfl,rfl,rfl,Zx _,fun _ _ _ _=>rfl,fun _ _ _=>rfl,fun _ _=>rfl⟩
theorem KF.Ae {w w':World}(P B:Nat)(ob:Option Nat)(h:ZY w w'):KF w w' P B ob:=⟨h.os,h.tape,h.output,h.size,fun k hk _ _=>h.block k hk,fun b o _=>QEc (a:=⟨P,o,none⟩) (h.block P b),fun b o=>QDx (a:=⟨P,o,none⟩) (h.block P b)⟩
theorem KF.trans {x y z:World}{P B:Nat}{ob b:Option Nat}(h:KF x y P B ob)(g:KF y z P B b)(s:As x ob b):KF x z P B ob:=by
 refine⟨g.os.trans h.os,g.tape.trans h.tape,g.output.trans h.output,Zv h.size g.size,fun k hk a c=> ?_,fun a o hl=>(g.off (Zy a h.size) o hl).trans (h.off a o hl),fun a o=>(g.AD (Zy a h.size) o).trans (h.AD a o)⟩;have e:=h.block k hk a c;refine (g.block k (Zy hk h.size) a ?_).trans e;rcases c with c | ⟨cs,t,fr,i,j,m,n,p,q,r⟩
 .exact Zu c
 .refine Zj ⟨cs,t,fr,e.trans i,j,m,n,p,q,fun u d=> ?_⟩
  rcases s k d.symm with f | f
  .exact r u f.symm
  .omega
theorem KF.DL {w w':World}{P B:Nat}(h:PF w w' P B Ck)(ob:Option Nat):KF w w' P B ob :=
 ⟨h.os,h.tape,h.output,h.size,fun k hk a b=>h.block k hk a (by
  rcases b with b | ⟨cs,t,fr,c,d,_⟩
  .exact Zu (Zu b)
  .exact Zj ⟨cs,t,fr,c,d⟩),fun a o e=>h.off a o (Zu (by omega)),h.AD⟩
theorem KF.Qx {w w':World}{P B n c first:Nat}{a:Option Addr}{m xs:List Ba}(j:FV w P B a n c first m xs)(h:RF w w' P (QFv a n c).ownBlock 8 11)(ob:Option Nat):KF w w' P B ob:=by
 refine⟨h.os,h.tape,h.output,h.size,fun k hk f g=>h.block k hk f (fun b=> ?_),fun f o q=>h.off f o (Zu (by omega)),h.AD⟩;rcases j.row.2 with⟨e,_⟩ | ⟨p,cap,cur,e,hg,hh,_⟩
 .rw[e] at b;simp[QCi] at b
 .rw[e] at b
  simp only[QCi,QCf] at b;subst b;rcases g with g | ⟨cs,t,fr,d,_,i,_⟩
  .omega
  .rw[hh] at d
   simp only[QCf,QIq] at d;exact i d.2.1.symm
theorem KF.Wj {w w':World}{P B n c first:Nat}{a:Option Addr}{p xs:List Int}(m:Gv w P B a n c first p xs)(h:RF w w' P (QFv a n c).ownBlock 5 8):KF w w' P B (QFv a n c).ownBlock:=by
 refine⟨h.os,h.tape,h.output,h.size,fun k hk f i=>h.block k hk f (fun b=> ?_),fun f o r=>h.off f o (Zu (by omega)),h.AD⟩;have g:=b;rcases m.row.2 with⟨e,_⟩ | ⟨q,cap,cur,e,hg,hh,_⟩
 .rw[e] at b;simp[QCi] at b
 .rw[e] at b
  simp only[QCi,QCf] at b;subst b;rcases i with i | ⟨cs,t,fr,d,_,_,_,_,_,j⟩
  .omega
  .rw[hh] at d
   simp only[QCf,QIq] at d;exact j d.2.1.symm g
theorem KF.IU {qh:Nat}{w w':World}{P B:Nat}{ob:Option Nat}{r:Aq}(j:AR qh w B r)(h:Dm w w' r.b r.ng)(g:P<B):KF w w' P B ob:=by
 obtain⟨s,m,_,_,q,_⟩:=j.Bj;have d:P≠r.b:=by have:=j.bb;omega
 have f:P≠r.ng:=by omega
 refine⟨h.os,h.tape,h.output,h.size,fun k hk _ i=>h.block k hk (fun e=> ?_) (fun e=> ?_),fun g o _=>QEc (a:=⟨P,o,none⟩) (h.block P g d f),fun g o=>QDx (a:=⟨P,o,none⟩) (h.block P g d f)⟩
 .subst e
  rcases i with i | ⟨cs,t,fr,c,_,_,_,n,_⟩
  .have:=j.bb;omega
  .rw[j.top] at c
   simp only[QCf,QIq] at c;exact n c.2.1.symm
 .subst e
  rcases i with i | ⟨cs,t,fr,c,_,_,_,_,p,_⟩
  .omega
  .rw[m] at c
   simp only[QCf,QIq] at c;exact p c.2.1.symm
theorem KF.Bv (w:World)(P B o:Nat)(ob:Option Nat)(v:Value)(d:4<=o):KF w (w.setCell ⟨P,o,none⟩ v) P B ob :=
 ⟨rfl,rfl,rfl,by simp[QDw],fun k _ b _=>Zl w ⟨P,o,none⟩ v k b,fun _ a c=>Zac w P o a v (by omega),fun _ a=>by rw[QEa]⟩
structure Pr (F:Ad)(k:Nat)(s:AO)(n:Cl):Prop where
 tok:n.tok=s.tok
 bu:n.bu=F.bu k
 cl:n.cl=F.cl k
 be:n.be=F.be k
 ba:n.ba=F.ba k
 ca:n.ca=F.ca k
 ji:n.ji=F.ji k
 af:n.af=(QAr (F.an k)).map (F.af k)
structure NdGone (n:Cl):Prop where
 tok:n.tok=0
 bu:n.bu=0
 cl:n.cl=0
 be:n.be=0
 ba:n.ba=0
 ca:n.ca=0
 ji:n.ji=0
 af:n.af=[]
structure Bu (r:Aq)(d:Ag):Prop where
 id:r.id=d.id
 st:r.st=d.st
 len:r.ns.length=d.steps.length
 nd:∀k,k<d.steps.length->(r.at_ k).st=(d.at_ k).st/\(r.at_ k).tries=(d.at_ k).tries
 live:d.st=1->∀k,k<d.steps.length->Pr d.fl k (d.at_ k) (r.at_ k)
 over:d.st≠1->∀k,k<d.steps.length->NdGone (r.at_ k)
def Gw (el:List Int)(e:Ab):Prop:=∃is:List Nat,el=is.map (fun i=>(e.at_ i).id)/\(∀i,i∈is↔i<e.runs.length/\0<(e.at_ i).ended)/\is.Pairwise (fun i j=>(e.at_ i).ended<(e.at_ j).ended)
structure Ch (qh:Nat)(w:World)(P B:Nat)(ob:Option Nat)(e:Ab)(rs:List Aq)(l:List Tm):Prop where
 ex:∃el now,Dq qh w P B ob rs el e.queue now l e.Ah e.Ai e.Ar/\e.time=((now:Nat):Int)/\Gw el e
 len:rs.length=e.runs.length
 runs:∀i,i<e.runs.length->Bu (Am rs i) (e.at_ i)
def BE (qh:Nat)(w:World)(P B:Nat)(ob:Option Nat)(e:Ab):Prop:=∃rs l,Ch qh w P B ob e rs l/\Bf e l
theorem BE.qs {qh:Nat}{w:World}{P B:Nat}{ob:Option Nat}{e:Ab}(h:BE qh w P B ob e):qh<w.heap.size:=by
 obtain⟨rs,l,a,_⟩:=h;obtain⟨_,_,b,_⟩:=a.ex;exact b.qs
def BQ (rs rs':List Aq):Prop:=rs'.length=rs.length/\∀j,j<rs.length->(Am rs' j).b=(Am rs j).b
theorem BQ.refl (rs:List Aq):BQ rs rs:=⟨rfl,fun _ _=>rfl⟩
theorem BQ.trans {a b c:List Aq}(h:BQ a b)(g:BQ b c):BQ a c:=⟨g.1.trans h.1,fun j d=>(g.2 j (by rw[h.1];exact d)).trans (h.2 j d)⟩
theorem Ch.below {qh:Nat}{w w':World}{P B:Nat}{ob:Option Nat}{e:Ab}{rs:List Aq}{l:List Tm}(h:Ch qh w P B ob e rs l)(hb:ZY w w'):Ch qh w' P B ob e rs l:=by
 obtain⟨el,now,a,b,c⟩:=h.ex;exact⟨⟨el,now,a.below hb,b,c⟩,h.len,h.runs⟩
theorem BE.below {qh:Nat}{w w':World}{P B:Nat}{ob:Option Nat}{e:Ab}(h:BE qh w P B ob e)(hb:ZY w w'):BE qh w' P B ob e:=by
 obtain⟨rs,l,a,b⟩:=h;exact⟨rs,l,a.below hb,b⟩
open Go.RowKit
theorem Bu.step {r:Aq}{d:Ag}(h:Bu r d)(a:d.st=1){k:Nat}(hk:k<d.steps.length){f:Cl->Cl}{g:AO->AO}(i:(f (r.at_ k)).st=(g (d.at_ k)).st)(j:(f (r.at_ k)).tries=(g (d.at_ k)).tries)(hn:Pr d.fl k (g (d.at_ k)) (f (r.at_ k))):Bu (r.BG k f) (d.Af k g):=by
 have c:k<r.ns.length:=by rw[h.len];exact hk
 refine⟨h.id,h.st,by rw[Aq.AW,Zal];exact h.len,fun m hm=> ?_,fun _ m hm=> ?_,fun b=>absurd a b⟩
 .rw[Zal] at hm
  rw[Aq.BY _ _ _ _ (by rw[h.len];exact hm),Zeg _ _ _ _ hm];by_cases e:k=m
  .subst e;rw[if_pos rfl,if_pos rfl];exact⟨i,j⟩
  .rw[if_neg e,if_neg e];exact h.nd m hm
 .rw[Zal] at hm
  rw[Aq.BY _ _ _ _ (by rw[h.len];exact hm),Zeg _ _ _ _ hm,Io];by_cases e:k=m
  .subst e;rw[if_pos rfl,if_pos rfl];exact hn
  .rw[if_neg e,if_neg e];exact h.live a m hm
theorem Pr.st {F:Ad}{k:Nat}{s:AO}{n:Cl}(h:Pr F k s n)(x y:Int):Pr F k { s with st:=x } { n with st:=y }:=⟨h.tok,h.bu,h.cl,h.be,h.ba,h.ca,h.ji,h.af⟩
theorem Bu.Mh {r:Aq}{d:Ag}(h:Bu r d)(a:d.st=1){k:Nat}(hk:k<d.steps.length)(v:Int):Bu (r.BG k (fun n=>{ n with st:=v })) (d.Af k (fun s=>{ s with st:=v })) :=
 h.step a hk rfl (h.nd k hk).2 ((h.live a k hk).st v v)
theorem Bu.ended {r:Aq}{d:Ag}(h:Bu r d)(st ends:Int)(c:st≠1):Bu (r.ended st) (Zd6 st ends d):=by
 have hl:(r.ended st).ns.length=r.ns.length:=by unfold Aq.ended;simp
 have a:∀k,k<r.ns.length->(r.ended st).at_ k=(r.at_ k).over:=by
  intro k hk;have:=Aq.GG (r:=r) (st:=st) (k:=r.ns.length) hk;rw[Aq.Lw,if_pos hk] at this;exact this
 refine⟨h.id,rfl,by rw[hl,Zbg];exact h.len,fun k hk=> ?_,fun b=>absurd b c,fun _ k hk=> ?_⟩
 .rw[Zbg] at hk
  rw[a k (by rw[h.len];exact hk),Zca st ends d hk];obtain⟨e,b⟩:=h.nd k hk;unfold Cl.over Ks Dz;simp only[e]
  split<;>exact⟨rfl,b⟩
 .rw[Zbg] at hk
  rw[a k (by rw[h.len];exact hk)];exact⟨rfl,rfl,rfl,rfl,rfl,rfl,rfl,rfl⟩
theorem Bu.within {r:Aq}{d:Ag}(h:Bu r d)(f:d.st=1)(hf:BW d.fl)(hl:d.steps.length=d.fl.n):r.within:=by
 intro k hk;have c:k<d.steps.length:=by rw[<-h.len];exact hk
 have g:=(h.live f k c).af;have he:=hf.Ss k (by omega)
 have o:∀a,a<d.fl.an k->(a:Int)<=d.fl.af k a:=by
  intro a
  induction a with
  | zero=>intro b;have:=(he 0 b).1;omega
  | succ a q=>intro b;have:=q (by omega);have:=(he (a+1) b).2.2 (by omega);simp only[Nat.add_sub_cancel] at this;omega
 have e:=hf.top.n2
 have i:d.fl.an k<=12:=by
  rcases Nat.lt_or_ge (d.fl.an k) 13 with p | p
  .omega
  .have:=o 12 (by omega)
   have:=(he 12 (by omega)).2.1;omega
 rw[g];refine⟨by simp;omega,fun a hm=> ?_⟩;obtain⟨j,m,rfl⟩:=List.mem_map.1 hm;have:=he j (List.mem_range.1 m);exact⟨this.1,by have:=this.2.1;have:=h.len;omega⟩
theorem Bu.Rf {r:Aq}{d:Ag}(hl:d.steps.length=d.fl.n)(hf:BW d.fl){k:Nat}(hk:k<d.steps.length){j:Nat}(a:j<d.fl.an k):(d.fl.af k j).toNat<d.steps.length:=by
 have h:=hf.Ss k (by omega) j a;have:=h.1;have:=h.2.1;omega
theorem Bu.free {r:Aq}{d:Ag}(h:Bu r d)(c:d.st=1)(hf:BW d.fl)(hl:d.steps.length=d.fl.n){k:Nat}(hk:k<d.steps.length):r.free k=d.free k:=by
 unfold Aq.free Ag.free;rw[(h.nd k hk).1,(h.live c k hk).af,List.all_map]
 congr 1
 rw[QIo,QIt,QIt];constructor
 .intro g j b
  have:=g j b;have a:=Bu.Rf (r:=r) hl hf hk (List.mem_range.1 b);simp only[QIp] at this;rw[(h.nd _ a).1] at this;exact this
 .intro g j b
  have:=g j b;have a:=Bu.Rf (r:=r) hl hf hk (List.mem_range.1 b);simp only[QIp];rw[(h.nd _ a).1];exact this
theorem Bu.awake {r:Aq}{d:Ag}(h:Bu r d)(a:d.st=1)(hf:BW d.fl)(hl:d.steps.length=d.fl.n):r.awake=(QAr d.steps.length).filter d.free:=by
 unfold Aq.awake Aq.DG;rw[h.len];exact List.filter_congr (fun k hk=>h.free a hf hl (List.mem_range.1 hk))
theorem Bu.lost {r:Aq}{d:Ag}(h:Bu r d)(c:d.st=1)(hf:BW d.fl)(hl:d.steps.length=d.fl.n){k:Nat}(hk:k<d.steps.length):r.lost k=d.lost k:=by
 unfold Aq.lost Ag.lost Aq.JK;rw[(h.nd k hk).1,(h.live c k hk).af,List.any_map]
 congr 1
 rw[QIo,QEn,QEn];constructor
 .rintro⟨j,b,g⟩
  have a:=Bu.Rf (r:=r) hl hf hk (List.mem_range.1 b);simp only[QIp] at g;rw[(h.nd _ a).1] at g;exact⟨j,b,g⟩
 .rintro⟨j,b,g⟩
  have a:=Bu.Rf (r:=r) hl hf hk (List.mem_range.1 b);refine⟨j,b,?_⟩;simp only[QIp];rw[(h.nd _ a).1];exact g
theorem Es.snoc {a b:Ag}(h:Es a b){k:Nat}(hk:k<b.steps.length)(hl:b.lost k=true):Es a (b.Af k JB):=h.trans (.step b _ k hk hl (.refl _))
theorem TZ.is {r r2:Aq}{d:Ag}(i:TZ r r2)(h:Bu r d)(g:d.st=1)(hf:BW d.fl)(hl:d.steps.length=d.fl.n):∃d2,Es d d2/\Bu r2 d2:=by
 induction i with
 | refl=>exact⟨d,.refl d,h⟩
 | step r2 k _ hk f j =>
  obtain⟨d2,c,hi⟩:=j;have a:=c.same;have hlen:=c.len;have b:k<d2.steps.length:=by rw[<-hi.len];exact hk
  have e:=hi.lost (by rw[a.2.2.1];exact g) (by rw[a.2.1];exact hf) (by rw[hlen,a.2.1];exact hl) b;rw[f] at e;exact⟨d2.Af k JB,c.snoc b e.symm,hi.Mh (by rw[a.2.2.1];exact g) b 7⟩
theorem Aq.shut.is {r2:Aq}{d2:Ag}(b:r2.shut)(h:Bu r2 d2)(a:d2.st=1)(hf:BW d2.fl)(hl:d2.steps.length=d2.fl.n):Shut d2:=by
 intro k hk;rw[<-h.lost a hf hl hk];exact b k (by rw[h.len];exact hk)
def outI:Option Int->Int
 | none=>1
 | some st=>st
theorem ns_all {r:Aq}{p:Cl->Bool}:r.ns.all p=true↔∀k,k<r.ns.length->p (r.at_ k)=true:=by
 rw[QIt];constructor
 .intro h k hk
  exact h _ (Zbz (z:=Cl.z) hk)
 .intro h x a
  obtain⟨k,hk,e⟩:=Zb8 (z:=Cl.z) a;have:=h k hk;unfold Aq.at_ at this;rw[e] at this;exact this
theorem Bu.outcome {r:Aq}{d:Ag}(h:Bu r d):r.Wn=outI d.outcome:=by
 have c:∀p:Int->Bool,r.ns.all (fun n=>p n.st)=d.steps.all (fun s=>p s.st):=by
  intro p;rw[QIo,ns_all,Mu,h.len];constructor
  .intro g k hk;have:=g k hk;rw[(h.nd k hk).1] at this;exact this
  .intro g k hk;have:=g k hk;rw[(h.nd k hk).1];exact this
 unfold Aq.Wn Ag.outcome;have a:=c (fun x=>x == 5||x == 6||x == 7);have b:=c (fun x=>x == 5);rw[a,b]
 split
 .rfl
 .rfl
theorem Ht.task {rs:List Aq}{tok:Int}{o:Option (Nat×Nat)}{e:Ab}(h:Ht rs tok o)(hl:rs.length=e.runs.length)(hi:∀i,i<e.runs.length->Bu (Am rs i) (e.at_ i))(wk:Ao e):e.task tok=o:=by
 have key:∀i k,i<e.runs.length->k<(e.at_ i).steps.length->(((Am rs i).at_ k).Ji tok↔((e.at_ i).at_ k).st=3/\((e.at_ i).at_ k).tok=tok):=by
  intro i k c b;unfold Cl.Ji;rw[((hi i c).nd k b).1];by_cases f:((e.at_ i).at_ k).st=3
  .have p:=wk.Bi c b (by omega)
   rw[((hi i c).live p k b).tok]
  .constructor<;>(intro g;exact absurd g.1 f)
 cases h with
 | no hn =>
  refine Nu (fun i c=>RW (fun k b=> ?_));rw[<-key i k c b];exact hn i k (by omega) (by rw[(hi i c).len];exact b)
 | at_ i k c b f g q =>
  have a:i<e.runs.length:=by omega
  have d:k<(e.at_ i).steps.length:=by rw[<-(hi i a).len];exact b
  refine ZA a (ZH d ((key i k a d).1 f) (fun j n=> ?_)) (fun j n=>RW (fun m hm=> ?_))
  .rw[<-key i j a (by omega)];exact g j n
  .rw[<-key j m (by omega) hm]
   exact q j m n (by rw[(hi j (by omega)).len];exact hm)
theorem JM {rs:List Aq}{id:Int}{e:Ab}(hl:rs.length=e.runs.length)(hi:∀i,i<e.runs.length->Bu (Am rs i) (e.at_ i)):JL rs id=e.find id:=by
 have c:∀j (b:j<e.runs.length),e.at_ j=e.runs[j]:=fun j b=>by unfold Ab.at_;rw[ZQ,ZZ b];rfl
 cases h:e.find id with
 | none =>
  unfold Ab.find at h;rw[List.findIdx?_eq_none_iff] at h;refine JN (fun j b=> ?_);have a:j<e.runs.length:=by omega
  have:=h (e.at_ j) (by rw[c j a];exact QAi a);rw[(hi j a).id];simpa using this
 | some i =>
  unfold Ab.find at h;rw[List.findIdx?_eq_some_iff_getElem] at h;obtain⟨d,f,g⟩:=h;refine Gg (by omega) ?_ (fun j b=> ?_)
  .rw[(hi i d).id,c i d];simpa using f
  .have:=g j b
   rw[(hi j (by omega)).id,c j (by omega)];simpa using this
theorem Zdi {rs:List Aq}{i j:Nat}{r:Aq}(hi:i<rs.length)(a:j<rs.length):Am (rs.set i r) j=if i=j then r else Am rs j:=by
 unfold Am;rw[ZQ,ZQ,List.getElem?_set];by_cases e:i=j
 .subst e;rw[if_pos rfl,if_pos hi,if_pos rfl];rfl
 .rw[if_neg e,if_neg e]
theorem DR {rs:List Aq}{e e':Ab}{i:Nat}{r:Aq}{f:Ag->Ag}(hl:rs.length=e.runs.length)(hi:∀i,i<e.runs.length->Bu (Am rs i) (e.at_ i))(h:i<e.runs.length)(he:e'.runs=(e.AL i f).runs)(g:Bu r (f (e.at_ i))):(rs.set i r).length=e'.runs.length/\∀j,j<e'.runs.length->Bu (Am (rs.set i r) j) (e'.at_ j):=by
 have a:e'.runs.length=e.runs.length:=by rw[he];exact Zbk e i f
 refine⟨by rw[QAo,a];exact hl,fun j b=> ?_⟩;rw[a] at b;have d:e'.at_ j=(e.AL i f).at_ j:=by unfold Ab.at_;rw[he]
 rw[Zdi (by omega) (by omega),d,Zbr e i j f b];by_cases c:i=j
 .subst c;rw[if_pos rfl,if_pos rfl];exact g
 .rw[if_neg c,if_neg c];exact hi j b
theorem Gw.same {el:List Int}{e e':Ab}(h:Gw el e)(hl:e'.runs.length=e.runs.length)(d:∀j,j<e.runs.length->(e'.at_ j).id=(e.at_ j).id/\(e'.at_ j).ended=(e.at_ j).ended):Gw el e':=by
 obtain⟨is,k,g,m⟩:=h;have c:∀i,i∈is->i<e.runs.length:=fun i hi=>((g i).1 hi).1;refine⟨is,?_,fun i=> ?_,?_⟩
 .rw[k]
  exact QIj (fun i hi=>((d i (c i hi)).1).symm)
 .rw[g,hl]
  constructor
  .rintro⟨a,b⟩;exact⟨a,by rw[(d i a).2];exact b⟩
  .rintro⟨a,b⟩;exact⟨a,by rw[<-(d i a).2];exact b⟩
 .refine m.imp_of_mem (fun {a b} n hb f=> ?_)
  rw[(d a (c a n)).2,(d b (c b hb)).2];exact f
theorem Gw.snoc {el:List Int}{e e':Ab}{i:Nat}(h:Gw el e)(hl:e'.runs.length=e.runs.length)(hi:i<e.runs.length)(q:(e.at_ i).ended=0)(k:∀j,j<e.runs.length->j≠i->(e'.at_ j).id=(e.at_ j).id/\(e'.at_ j).ended=(e.at_ j).ended)(p:(e'.at_ i).id=(e.at_ i).id)(f:(e'.at_ i).ended=e.ends+1)(u:0<=e.ends)(t:∀j,j<e.runs.length->(e.at_ j).ended<=e.ends):Gw (el++[(e.at_ i).id]) e':=by
 obtain⟨is,r,n,s⟩:=h;have d:∀j,j∈is->j<e.runs.length/\j≠i:=fun j m=>⟨((n j).1 m).1,fun c=>by have:=((n j).1 m).2;rw[c,q] at this;omega⟩
 refine⟨is++[i],?_,fun j=> ?_,?_⟩
 .rw[r,List.map_append]
  congr 1
  .exact QIj (fun j m=>((k j (d j m).1 (d j m).2).1).symm)
  .simp[p]
 .rw[QCn,QDd,n,hl]
  constructor
  .rintro (⟨a,b⟩ | rfl)
   .by_cases c:j=i
    .subst c;exact⟨a,by rw[f];omega⟩
    .exact⟨a,by rw[(k j a c).2];exact b⟩
   .exact⟨hi,by rw[f];omega⟩
  .rintro⟨a,b⟩
   by_cases c:j=i
   .exact Zj c
   .exact Zu ⟨a,by rw[<-(k j a c).2];exact b⟩
 .rw[List.pairwise_append]
  refine⟨s.imp_of_mem (fun {a b} g hb o=>by rw[(k a (d a g).1 (d a g).2).2,(k b (d b hb).1 (d b hb).2).2];exact o),List.pairwise_singleton _ _,fun a g b hb=> ?_⟩;rw[QDd] at hb;subst hb;rw[f,(k a (d a g).1 (d a g).2).2];have:=t a (d a g).1;omega
open Go.RowKit
attribute [local go_sem ↓] Go.wp_at_zero Go.wp_at_succ
def BP (w:World)(P:Nat)(a:Option Addr)(c:Nat)(ks:List Nat):Prop:=ks=[]\/∃g cur,a=some ⟨g,0,none⟩/\g≠P/\ks.length<=c/\w.heap[g]? =some (.cells cur 3 (0,0))/\∀j,j<ks.length->cur[j]? =some (.int .i64 ((ks.getD j 0:Nat):Int))
theorem BP.MY {w:World}{P B:Nat}(q:P<B){a:Option Addr}{c:Nat}{b:List Nat}(h:w.ownsRow B 3 1 (.slice a b.length c) b.length (Qu b)):BP w P a c b:=by
 rcases h.2 with⟨_,d⟩ | ⟨g,cap,cur,d,n,hh,f,o,p,i⟩
 .left;exact List.eq_nil_of_length_eq_zero d
 .right
  obtain⟨k,_,m⟩:a=some ⟨g,0,none⟩/\b.length=b.length/\c=cap:=by simpa using d
  subst k m;refine⟨g,cur,rfl,by omega,f,hh,fun j e=> ?_⟩;have:(cur.toList.take (b.length * 1))[j]? =(Qu b)[j]? :=by rw[i]
  rw[List.getElem?_take_of_lt (by omega)] at this;rw[<-Array.getElem?_toList,this];unfold Qu;rw[QEp,ZZ e,ZQ,ZZ e];rfl
theorem BP.at_ {w w':World}{P:Nat}{a:Option Addr}{c:Nat}{e:List Nat}(h:BP w P a c e)(hb:∀k cs fr,w.heap[k]? =some (Obj.cells cs 3 fr)->k≠P->w'.heap[k]? =w.heap[k]?):BP w' P a c e:=by
 rcases h with h | ⟨g,cur,f,b,i,d,j⟩
 .exact Zu h
 .exact Zj ⟨g,cur,f,b,i,(hb g _ _ d b).trans d,j⟩
theorem BP.kf {w w':World}{P B:Nat}{ob:Option Nat}{a:Option Addr}{c:Nat}{b:List Nat}(h:BP w P a c b)(hf:KF w w' P B ob):BP w' P a c b :=
 h.at_ (fun k cs fr e d=>hf.block k (Zaa e) d (Zj ⟨cs,_,fr,e,by decide,by decide,by decide,by decide,by decide,fun x=>absurd x (by decide)⟩))
def Zdo (e:Ab)(i:Nat)(ks:List Nat):Ab:=ks.foldl (fun e k=>e.ready i k) e
theorem OP (e:Ab)(i:Nat)(a:List Nat)(k:Nat):Zdo e i (a++[k])=(Zdo e i a).ready i k:=by unfold Zdo;rw[List.foldl_append];rfl
def Mt (e:Ab)(i:Nat)(ks:List Nat)(l:List Tm):Prop:=Bo l/\∀t,t∈l↔BH e t/\∀k∈ks,¬Dr (e.at_ i).id k t
theorem Mt.done {e:Ab}{i:Nat}{l:List Tm}(h:Mt e i [] l):Bf e l:=by
 rw[Zbc];exact⟨h.1,fun t=>by rw[h.2];simp⟩
theorem Mt.step {e:Ab}(wk:Ao e){i k:Nat}{g:List Nat}{l:List Tm}(hi:i<e.runs.length)(hk:k<(e.at_ i).steps.length)(h:Mt e i (k::g) l):Mt (e.ready i k) i g l:=by
 refine⟨h.1,fun t=> ?_⟩;have c:((e.ready i k).at_ i).id=(e.at_ i).id:=by rw[DO e i k hi];rfl
 rw[h.2,c,Zdt wk hi hk (f:=fun s=>{ s with st:=2 }) (e':=e.ready i k) rfl]
 have d:¬IC (e.at_ i).id k { (e.at_ i).at_ k with st:=2 } t:=by
  rintro (⟨a,_⟩ | ⟨a,_⟩ | ⟨a,_⟩)<;>simp at a
 constructor
 .rintro⟨a,b⟩
  exact⟨Zu ⟨a,b k (QDa ..)⟩,fun m hm=>b m (List.mem_cons_of_mem _ hm)⟩
 .rintro⟨a | ⟨_,a⟩,b⟩
  .refine⟨a.1,fun m hm=> ?_⟩
   rcases List.mem_cons.1 hm with rfl | hm
   .exact a.2
   .exact b m hm
  .exact absurd a d
theorem Bf.toW {e:Ab}{l:List Tm}(h:Bf e l)(wk:Ao e){i:Nat}{b:List Nat}(hi:i<e.runs.length)(hk:∀k∈b,k<(e.at_ i).steps.length/\((e.at_ i).at_ k).st=1):Mt e i b l:=by
 rw[Zbc] at h;refine⟨h.1,fun t=> ?_⟩;rw[h.2];refine⟨fun a=>⟨a,fun k hm c=> ?_⟩,fun a=>a.1⟩;obtain⟨k1,k2⟩:=hk k hm;rcases (a.node wk hi k1 c).2 with⟨g,_⟩ | ⟨g,_⟩ | ⟨g,_⟩<;>rw[k2] at g<;>cases g
theorem Ka {qh:Nat}(w:World)(P B:Nat)(ob:Option Nat)(e:Ab)(rs:List Aq)(l:List Tm)(i c:Nat)(a:Option Addr)(p:List Nat)(h:Ch qh w P B ob e rs l)(wk:Ao e)(hi:i<e.runs.length)(h1:(e.at_ i).st=1)(J:p.Nodup/\∀k∈p,k<(e.at_ i).steps.length/\(((e.at_ i).at_ k).st=1\/((e.at_ i).at_ k).st=4))(hT:Mt e i p l)(hN:BP w P a c p) :
  Calls prog 153 #[.pointer (some ⟨P,4,none⟩),.pointer (some ⟨(Am rs i).b,0,none⟩),.slice a p.length c] w fun x w'=>x=.returned (.tuple #[])/\∃dj,Ch qh w' P B ob (Zdo e i p) dj l/\BQ rs dj/\Bf (Zdo e i p) l/\Ao (Zdo e i p)/\FF e (Zdo e i p) i/\KF w w' P B ob:=by
 obtain⟨n,hn⟩:∃n,n=p.length:=⟨_,rfl⟩
 have fh:n<=12:=by
  have:=Fs p (QAr (e.at_ i).steps.length) J.1 (fun k hk=>List.mem_range.2 (J.2 k hk).1);rw[QHq] at this;have:=wk.IS hi;omega
 have H:=Zz (Zq h (Zq wk (Zq hi (Zq h1 (Zq J (Zq hT (Zq hN hn)))))));rw[<-hn];obtain⟨b,hb⟩:∃b,b=(Am rs i).b:=⟨_,rfl⟩;rw[<-hb];have HB:=Zz hb;clear h wk hi h1 J hT hn hb;rcases hN with U | ⟨g,cur,rfl,ee,ft,cq,az⟩
 .have cz:n=0:=by rw[H.o.2.2.2.2.2.2.2,U];rfl
  have dp:=Zz U;rw[cz];clear U cz
  go_enter func153,ntmps153
  go_wp2_with fail
  refine wp_loop_rounds 1 ?_;rw[rounds_succ];go_wp2_with fail
  go_end0
  have hT:=H.o.2.2.2.2.2.1;rw[dp.o] at hT ⊢;exact⟨rfl,rs,H.o.1,BQ.refl _,hT.done,H.o.2.1,FF.refl _ _,KF.refl _ _ _ _⟩
 .clear az cq ee
  go_enter func153,ntmps153
  go_wp2_with fail
  go_loopw [10] (fun iv wr=>∃(j:Nat) (y:List Aq),iv=.int .i64 j/\j<=n/\Ch qh wr P B ob (Zdo e i (p.take j)) y l/\BQ rs y/\Mt (Zdo e i (p.take j)) i (p.drop j) l/\Ao (Zdo e i (p.take j))/\FF e (Zdo e i (p.take j)) i/\KF w wr P B ob/\∀m,m ∉ p.take j->m<(e.at_ i).steps.length->(((Zdo e i (p.take j)).at_ i).at_ m)=(e.at_ i).at_ m) (fun iv _=>n - (intOf iv).toNat)
  case atStart=>exact⟨0,rs,rfl,by omega,H.o.1,BQ.refl _,H.o.2.2.2.2.2.1,H.o.2.1,FF.refl _ _,KF.refl _ _ _ _,fun _ _ _=>rfl⟩
  case round =>
   obtain⟨j,y,rfl,L,hX,X,Y,aj,A,ae,E⟩:=hrel;obtain⟨C,Z⟩:∃C,C=Zdo e i (p.take j):=⟨_,rfl⟩;rw[<-Z] at hX Y aj A E;have HR:=Zz (Zq hX (Zq X (Zq Y (Zq aj (Zq A (Zq ae (Zq E Z)))))));by_cases h1:j<n
   .have F:j<p.length:=by have:=H.o.2.2.2.2.2.2.2;omega
    obtain⟨k,hk⟩:∃k,k=p.getD j 0:=⟨_,rfl⟩;have bh:k∈p:=by rw[hk,ZQ,ZZ F];exact QAi _
    obtain⟨bf,J⟩:=H.o.2.2.2.2.1.2 k bh;have cm:BP wr P (some ⟨g,0,none⟩) c p:=H.o.2.2.2.2.2.2.1.kf ae
    have ep:wr.cell? ⟨g,j,none⟩=some (.int .i64 k):=by
     rcases cm with h | ⟨g2,fg,h1,_,_,h3,h4⟩
     .rw[h] at F;simp at F
     .obtain rfl:g=g2:=by simpa using h1
      unfold QEk;rw[h3,hk];exact h4 j F
    obtain⟨el,now,hM,de,cu⟩:=hX.ex;obtain⟨ka,kc,cy⟩:=hM.kn;have S:i<y.length:=by rw[hX.len,A.len];exact H.o.2.2.1
    have ay:(Am y i).b=b:=by rw[HB.o];exact X.2 i (by have:=H.o.1.len;have:=H.o.2.2.1;omega)
    have D:=cy.runs i S;obtain⟨⟨t0,_,t2⟩,_⟩:=D.CP;obtain⟨_,_,fi,_,_,_⟩:=D.Bj;have ax:=hX.runs i (by rw[<-hX.len];exact S);have I:k<(Am y i).ns.length:=by rw[ax.len,A.steps];exact bf
    have t7:=(D.nd I).c7;have f7:=D.AD (k * 10+7);have t:=D.FP (k:=k) (j:=7) (f:=fun n=>{ n with st:=2 }) (v:=.int .i64 2) I (by omega) rfl ⟨rfl,rfl,rfl⟩;have aw:=hM.run S t rfl rfl (Dm.EA wr (Am y i).b (Am y i).ng _ _);rw[ay] at t0 t2;have fv:(k:Int)<((Am y i).ns.length:Int):=by omega
    obtain⟨ng,bj⟩:∃ng,ng=(Am y i).ng:=⟨_,rfl⟩;rw[<-bj] at t2 t7 f7 t aw;have au:=Zz (Zq aw (Zq t bj));have HK:=Zz (Zq hk (Zq bf (Zq J (Zq S (Zq ay (Zq ax (Zq I (Zq de (Zq cu bh)))))))));have j1:(j:Int)<(n:Int):=by omega
    have bw:=Zz D
    generalize hz:(Am y i).ns.length=z at *
    generalize (Am y i).nc=nc at *
    have fm:z<=12:=by rw[<-hz];exact bw.o.Br
    generalize (Am y i).id=id at *
    clear hX X Y aj A ae E Z hk bh bf J cm hM de cu cy S ay D ax I t aw bj
    go_upto_region 4 with fail
    obtain⟨N,ag⟩:∃N,N=wr.setCell ⟨ng,k * 10+7,none⟩ (.int .i64 2):=⟨_,rfl⟩;rw[<-ag];have q:=au.o;rw[<-ag] at q;obtain⟨qa,qn,qc,qf,ez,hq⟩:=q.1.qu
    have d0:N.cell? ⟨b,0,none⟩=some (.int .u64 (Am y i).id):=by
     have:=q.2.1.CP.1.1;have e2:((Am y i).BG k (fun n=>{ n with st:=2 })).b=b:=HK.o.2.2.2.2.1;rw[e2] at this;exact this
    have al:(Am y i).id=(C.at_ i).id:=HK.o.2.2.2.2.2.1.id;rw[al] at d0;obtain⟨G,bp⟩:∃G,G=(C.at_ i).id:=⟨_,rfl⟩;rw[<-bp] at d0;obtain⟨wp,M⟩:∃wp,wp=(N.drew).alloc (.cells #[.int .u64 G,.int .i64 k] 274):=⟨_,rfl⟩;have O:ZY N wp:=by rw[M];exact (ZV.drew).alloc ZU _
    have T:FT wp N.heap.size ⟨G,k⟩:=by
     obtain⟨z0,z1⟩:=(show _/\_ from M▸Zcy N.drew G k);refine⟨by rw[M];simp,fun j u L=> ?_⟩;unfold AX at L
     match j,L with
     | 0,L=>simp at L;subst L;exact z0
     | 1,L=>simp at L;subst L;exact z1
    have db:=hq.below O;have ey:=q.1.pb;have da:C.queue.length<=400:=by have:=HR.o.2.2.2.1.TB;omega
    have K:=QG wp P B qn qc qf N.heap.size qa ez C.queue ⟨G,k⟩ db T (by omega) (fun e=>by have:=(hq.row.lt _ e.symm).2;omega) da
    have Q:∀w3,RF wp w3 P (QFv qa qn qc).ownBlock 8 11->w3.cell? ⟨b,0,none⟩=some (.int .u64 G):=by
     intro w3 dy;have e2:((Am y i).BG k (fun n=>{ n with st:=2 })).b=b:=HK.o.2.2.2.2.1;have W:=q.2.1.top;rw[e2] at W;have fs:b<N.heap.size:=Zaa W;have fq:B<=b:=by have:=q.2.1.bb;rw[e2] at this;exact this
     refine (QEc (a:=⟨b,0,none⟩) (dy.block b (by have:=O.size;omega) (by omega) (fun e=> ?_))).trans (cell_later O d0);rcases hq.row.2 with⟨h2,_⟩ | ⟨g',cap,fe,h2,_,hh,_⟩
     .rw[h2] at e;simp[QCi] at e
     .rw[h2] at e
      simp only[QCi,QCf] at e;exact Zah W hh (by decide) e
    rw[M] at K Q;have HP:=Zz (Zq K Q);have HQ:=Zz (Zq hq (Zq O (Zq bp (Zq ag M))));have br:=Zz q;have fj:=QIr N ⟨b,0,none⟩ d0;clear q hq O db T K Q bp ag ey da al M
    go_region_held3 (fun w'=>w'.cell? ⟨b,0,none⟩=some (.int .u64 G)) (go_keep) ((go_at_call 191;refine HP.o.1.mono ?_;rintro e w3 ⟨rfl,bo⟩;have dr:=Zz bo;have v0:=HP.o.2 w3 bo.choose_spec.choose_spec.choose_spec.choose_spec.choose_spec.2.1;clear bo))
    all_goals
     go_wp2_with fail
     go_roundw
     case rel =>
      obtain⟨a',n',c',f',fw,p1,p2,p3⟩:=dr.o;obtain⟨k1,k2,k3,k4,k5⟩:=HQ.o;rw[<-k5] at p2 p3;obtain⟨m1,m2,m3,m4,m5,m6,m7,m8,m9,m10⟩:=HK.o;obtain⟨r1,r2,r3,r4,r5,r6,r7,r8⟩:=HR.o;have L:k<(C.at_ i).steps.length:=by rw[r5.steps];exact m2
      have R:i<C.runs.length:=by rw[r5.len];exact H.o.2.2.1
      have dc:RF N w3 P (QFv qa qn qc).ownBlock 8 11:=(RF.Ae P _ 8 11 k2).trans p2 (fun z hz=>Zu hz);have ck:=br.o.1.queue k1 dc ⟨_,_,_,_,_,p1⟩;have F:j<p.length:=by have:=H.o.2.2.2.2.2.2.2;omega
      have I:p[j]=k:=by rw[m1,ZQ,ZZ F];rfl
      have dd:p.take (j+1)=p.take j++[k]:=by rw[List.take_add_one,ZZ F,I];rfl
      have cr:p.drop j=k::p.drop (j+1):=by rw[List.drop_eq_getElem_cons F,I]
      have V:Zdo e i (p.take (j+1))=C.ready i k:=by rw[dd,OP,<-r8]
      have ei:k ∉ p.take j:=by
       intro hm;have hd:=H.o.2.2.2.2.1.1;rw[<-List.take_append_drop j p,cr] at hd;exact (List.nodup_append.1 hd).2.2 k hm k (QDa ..) rfl
      have dw:(C.at_ i).at_ k=(e.at_ i).at_ k:=r7 k ei m2;have ar:(C.at_ i).st=1:=by rw[r5.st];exact H.o.2.2.2.1
      have dh:Ao (C.ready i k):=r4.ready R L ar (by rw[dw];exact m3);have t:=DR (e:=C) (e':=C.ready i k) (f:=fun d=>d.Af k (fun s=>{ s with st:=2 })) r1.len r1.runs R rfl (m6.Mh ar L 2);have du:=DO C i k R;refine⟨j+1,y.set i ((Am y i).BG k (fun n=>{ n with st:=2 })),by go_num,by omega,?_,?_,?_,by rw[V];exact dh,by rw[V];exact r5.trans (FF.ready C k R),?_,?_⟩
      .rw[V]
       refine⟨⟨el,now,?_,m8,?_⟩,t.1,t.2⟩
       .rw[k3] at ck
        exact ck
       .exact m9.same (Is C i k) (fun x hx=>by
         have:=Zba (e:=C) (e':=C.ready i k) (i:=i) (k:=k) (f:=fun s=>{ s with st:=2 }) rfl hx;exact⟨this.1,this.2.2.2.2.2⟩)
      .refine r2.trans ⟨by rw[QAo],fun x hx=> ?_⟩
       rw[Zdi m4 hx]
       split
       .rename_i e;subst e;rfl
       .rfl
      .rw[V]
       rw[cr] at r3;exact r3.step r4 R L
      .have g1:KF wr N P B ob:=by
        rw[k4];have D:=bw.o;have hf:=Dm.EA wr (Am y i).b (Am y i).ng (k * 10+7) (.int .i64 2);rw[<-au.o.2.2] at hf;exact KF.IU (r:=Am y i) D (by rw[<-au.o.2.2];exact hf) br.o.1.pb.1
       exact (r6.trans g1 (As.refl _ _)).trans (KF.Qx k1 dc ob) (As.refl _ _)
      .intro m hm eg
       rw[dd,QCn,QDd] at hm;rw[V,du,Zbj _ _ (fun e=>hm (Zj e.symm))];exact r7 m (fun h=>hm (Zu h)) eg
     case measure=>simp[intOf];omega
   .have e:j=n:=by omega
    have HE:=Zz e;have j1:¬(j:Int)<(n:Int):=by omega
    clear e h1 hX X Y aj A ae E Z;go_wp2_with fail
    go_end0
    obtain⟨r1,r2,r3,r4,r5,r6,r7,r8⟩:=HR.o;have hk:=H.o.2.2.2.2.2.2.2;rw[List.take_of_length_le (by have:=HE.o;omega)] at r8;rw[r8] at r1 r4 r5;rw[List.drop_of_length_le (by have:=HE.o;omega),r8] at r3;exact⟨rfl,y,r1,r2,r3.done,r4,r5,r6⟩
def XL (e:Ab)(i:Nat)(l:List Tm):Prop:=Bo l/\(∀t,t∈l->BH e t)/\∀t,BH e t->¬ID (e.at_ i).id t->t∈l
theorem Bf.toE {e:Ab}{l:List Tm}(h:Bf e l)(i:Nat):XL e i l:=by
 rw[Zbc] at h;exact⟨h.1,fun t a=>(h.2 t).1 a,fun t a _=>(h.2 t).2 a⟩
def Ms (l:List Tm)(id:Int)(j:Nat)(lj:List Tm):Prop:=Bo lj/\∀t,t∈lj↔t∈l/\t.id≠Bc id (-1) 0/\∀k,k<j->¬Dr id k t
theorem Ms.first {l a:List Tm}{id:Int}(e:Bo l)(d:Bk l)(h:FJ l (Jm id (-1) [0]) a):Ms l id 0 a:=by
 obtain⟨_,_,b,c⟩:=h.all d;refine⟨b e,fun t=> ?_⟩;rw[c];simp only[Jm,QEg,QIi,QDd];exact⟨fun h=>⟨h.1,h.2,fun k hk=>by omega⟩,fun h=>⟨h.1,h.2.1⟩⟩
theorem Ms.next {l f m:List Tm}{id:Int}{j:Nat}(h:Ms l id j f)(p:Bk f)(s:FJ f (Jm id j [1,2,3]) m):Ms l id (j+1) m:=by
 obtain⟨_,_,n,o⟩:=s.all p;refine⟨n h.1,fun t=> ?_⟩;rw[o,h.2]
 have r:(t.id ∉ Jm id j [1,2,3])↔¬Dr id j t:=by
  unfold Jm Dr;simp only[QEg,QIi,QDc,QCq,or_false,not_or];constructor
  .rintro⟨a,b,c⟩ ⟨q,q1,u,i⟩
   have:q=1\/q=2\/q=3:=by omega
   rcases this with rfl | rfl | rfl
   .exact a i
   .exact b i
   .exact c i
  .intro g
   exact⟨fun x=>g ⟨1,by decide,by decide,x⟩,fun x=>g ⟨2,by decide,by decide,x⟩,fun x=>g ⟨3,by decide,by decide,x⟩⟩
 rw[r];constructor
 .rintro⟨⟨a,b,c⟩,d⟩
  refine⟨a,b,fun k hk=> ?_⟩;by_cases e:k=j
  .subst e;exact d
  .exact c k (by omega)
 .rintro⟨a,b,c⟩
  exact⟨⟨a,b,fun k hk=>c k (by omega)⟩,c j (by omega)⟩
theorem Ms.done {e:Ab}{l p:List Tm}{i:Nat}(wk:Ao e)(hi:i<e.runs.length){st:Int}(n:st≠1)(f:XL e i l)(h:Ms l (e.at_ i).id (e.at_ i).steps.length p):Bf (e.end_ i st) p:=by
 rw[Zbc];refine⟨h.1,fun t=> ?_⟩;rw[h.2,UN wk hi n];constructor
 .rintro⟨a,b,c⟩
  refine⟨f.2.1 t a,fun m=> ?_⟩;obtain⟨j,o,q,d⟩:=f.2.1 t a;have g:=m.uniq (KY.of ⟨q,d⟩ (wk.IS o));obtain rfl:=wk.Cy hi o g;rcases d with d | ⟨k,hk,r⟩
  .exact b (by rw[d])
  .exact c k hk r.own
 .rintro⟨a,b⟩
  refine⟨f.2.2 t a b,fun x=>b ⟨-1,0,by omega,by omega,x⟩,fun k hk m=>b (m.of (by have:=wk.IS hi;omega))⟩
theorem Fm (w:World)(qs:List Int):Dc (w.alloc (.cells (qs.map (fun q=>Value.int .i64 q)).toArray 280)) w.heap.size qs:=by
 refine⟨_,heap_alloc_new w _,fun i hi=> ?_⟩;rw[List.getElem?_toArray,QEp,ZZ hi,ZQ,ZZ hi];rfl
def XA (w:World)(bx b:Nat):Prop:=w.heap[bx]? =some (.cells #[.pointer (some ⟨b,0,none⟩)] 266 (0,0))
theorem XA.cell {w:World}{a b:Nat}(h:XA w a b):w.cell? ⟨a,0,none⟩=some (.pointer (some ⟨b,0,none⟩)):=by unfold QEk;rw[h];rfl
theorem FM {r nd q:Int}(a:0<=r)(b:r<18446744073709551616)(c: -1<=nd)(d:nd<15)(e:0<=q)(f:q<4):BL r nd q (Bc r nd q):=⟨rfl,a,b,c,d,e,f⟩
structure Ew (w:World)(bx b ng n nc:Nat)(id:Int):Prop where
 x:XA w bx b
 top:∃v,w.heap[b]? =some (.cells #[.int .u64 id,v,.slice (some ⟨ng,0,none⟩) n nc] 272 (0,0))
theorem Ew.cells {w:World}{a b ng n nc:Nat}{id:Int}(h:Ew w a b ng n nc id):w.cell? ⟨a,0,none⟩=some (.pointer (some ⟨b,0,none⟩))/\w.cell? ⟨b,0,none⟩=some (.int .u64 id)/\w.cell? ⟨b,2,none⟩=some (.slice (some ⟨ng,0,none⟩) n nc):=by
 obtain⟨v,c⟩:=h.top;refine⟨h.x.cell,?_,?_⟩<;>(unfold QEk;rw[c];rfl)
theorem Ew.at_ {w w':World}{a b ng n nc:Nat}{id:Int}(h:Ew w a b ng n nc id)(c:w'.heap[a]? =w.heap[a]?)(d:w'.heap[b]? =w.heap[b]?):Ew w' a b ng n nc id:=by
 obtain⟨v,e⟩:=h.top;exact⟨c.trans h.x,v,d.trans e⟩
theorem Ew.below {w w':World}{a b ng n nc:Nat}{id:Int}(h:Ew w a b ng n nc id)(hb:ZY w w'):Ew w' a b ng n nc id:=h.at_ (hb.block a (Zaa h.x)) (hb.block b (Zaa h.top.choose_spec))
theorem Ew.pf {w w':World}{P B a b ng n nc:Nat}{id:Int}(h:Ew w a b ng n nc id)(hf:PF w w' P B Ck)(c:a≠P)(d:b≠P):Ew w' a b ng n nc id:=h.at_ (hf.other h.x (by decide) c) (hf.other h.top.choose_spec (by decide) d)
theorem Ew.rf {w w':World}{P B c b ng n nc:Nat}{id:Int}(h:Ew w c b ng n nc id){qn f o:Nat}{d:Option Addr}{g xs:List Ba}(j:FV w P B d qn f o g xs)(hf:RF w w' P (QFv d qn f).ownBlock 8 11)(i:c≠P)(a:b≠P):Ew w' c b ng n nc id:=by
 have no:∀{k:Nat} {cs:Array Value} {t:TypeId} {fr:Nat×Nat},w.heap[k]? =some (.cells cs t fr)->t≠274->some k≠(QFv d qn f).ownBlock:=by
  intro k cs t fr e m hk;rcases j.row.2 with⟨a,_⟩ | ⟨p,cap,cur,a,_,hh,_⟩
  .rw[a] at hk;simp[QCi] at hk
  .rw[a] at hk
   simp only[QCi,QCf] at hk;subst hk;exact Zah e hh m rfl
 exact h.at_ (hf.block c (Zaa h.x) i (no h.x (by decide))) (hf.block b (Zaa h.top.choose_spec) a (no h.top.choose_spec (by decide)))
theorem Ew.gone {w:World}{a b ng n nc:Nat}{id:Int}(h:Ew w a b ng n nc id):EC w a b id:=⟨h.cells.1,h.cells.2.1,Zaa h.x,Zaa h.top.choose_spec⟩
theorem JX {qh:Nat}(w:World)(P B:Nat)(ob:Option Nat)(e:Ab)(rs:List Aq)(l:List Tm)(i:Nat)(st:Int)(h:Ch qh w P B ob e rs l)(wk:Ao e)(hi:i<e.runs.length)(h1:(e.at_ i).st=1)(cm:2<=st/\st<=5)(hT:XL e i l)(fm:e.Ah<18446744073709551616) :
  Calls prog 158 #[.pointer (some ⟨P,4,none⟩),.pointer (some ⟨(Am rs i).b,0,none⟩),.int .i64 st] w fun x w'=>x=.returned (.tuple #[])/\∃dp l' dj,Ch qh w' P B dj (e.end_ i st) dp l'/\BQ rs dp/\Bf (e.end_ i st) l'/\KF w w' P B ob/\As w ob dj:=by
 obtain⟨el,now,hM,ay,y⟩:=h.ex;obtain⟨ka,kc,dc⟩:=hM.kn;have G:i<rs.length:=by rw[h.len];exact hi
 have v:=dc.runs i G;have s:=h.runs i hi;obtain⟨r,hr⟩:∃r,r=Am rs i:=⟨_,rfl⟩;obtain⟨d,K⟩:∃d,d=e.at_ i:=⟨_,rfl⟩;rw[<-hr] at v s ⊢;rw[<-K] at s h1;have V:=hM.pb;obtain⟨w0,az⟩:∃w0,w0=w.alloc (.cells #[.pointer (some ⟨r.b,0,none⟩)] 266):=⟨_,rfl⟩;obtain⟨J,br⟩:∃J,J=w.heap.size:=⟨_,rfl⟩;have F:ZY w w0:=by rw[az];exact ZV.alloc ZU _
 have C:XA w0 J r.b:=by rw[az,br];exact heap_alloc_new w _
 have b0:=C.cell;have cr:=Zz (Zq br (Zq az (Zq F C)));have HE:=Zz (Vo w0 B r st (v.below F));have H:=Zz (Zq h (Zq wk (Zq hi (Zq h1 (Zq cm (Zq hT (Zq hM (Zq ay (Zq y (Zq v (Zq s (Zq hr (Zq K G)))))))))))));have al:J≠P:=by omega
 obtain⟨b,hb⟩:∃b,b=r.b:=⟨_,rfl⟩;have E:b≠P:=by have:=v.bb;omega
 obtain⟨id,aw⟩:∃id,id=d.id:=⟨_,rfl⟩;obtain⟨n,hn⟩:∃n,n=d.steps.length:=⟨_,rfl⟩;have fi:n<=12:=by rw[hn,K];exact wk.IS hi
 have bf:0<=id/\id<18446744073709551616:=by have:=wk.Uc i hi;have:=wk.Rr i hi;rw[aw,K];omega
 have cy:=hM.below F;have D:=v.below F
 have cz:∀w1,AR qh w1 B (r.ended st)->Dm w0 w1 r.b r.ng->Dq qh w1 P B ob (rs.set i (r.ended st)) el e.queue now l e.Ah e.Ai e.Ar/\Ew w1 J b r.ng n r.nc id/\KF w w1 P B ob:=by
  intro w1 ha hf;refine⟨cy.run G ha (by rw[<-hr];rfl) (by rw[<-hr];rfl) (by rw[<-hr];exact hf),⟨?_,?_⟩,(KF.Ae P B ob F).trans (KF.IU D hf V.1) (As.refl _ _)⟩
  .obtain⟨cg,eg,_⟩:=D.Bj
   rw[hb];exact (hf.block J (Zaa C) (Zah C D.top (by decide)) (Zah C eg (by decide))).trans C
  .refine⟨.int .i64 st,?_⟩
   have ht:=ha.top;have e1:(r.ended st).ns.length=n:=by unfold Aq.ended;rw[QIs,s.len,hn]
   have e2:r.id=id:=by rw[aw];exact s.id
   unfold rnC at ht;rw[e1] at ht;rw[hb,<-e2];exact ht
 have cq:=Zz cz;rw[<-hb] at b0 HE cq ⊢;have p:=Zz (Zq hb (Zq aw (Zq hn (Zq V bf))));clear h wk hi h1 cm hT hM ay y dc v s hr K G V az br F C hb aw hn cy D cz bf
 go_enter func158,ntmps158
 go_upto_region 1 with fail
 rw[<-cr.o.1];have Y:=cr.o.2.1;rw[<-p.o.1] at Y;rw[<-Y];clear Y;have fq:∀(fn:Fn) (first cap:Array Value) (w:World),(Instr.makeFunc fn first cap).run prog w=.ok (.func fn first cap) w:=fun _ _ _ _=>rfl
 go_wp2_with (first
  | (go_at_call 228;refine HE.o.mono ?_;rintro _ w1 ⟨rfl,ck,bw⟩;have HA:=Zz (Zq ck (Zq bw (cq.o w1 ck bw)));have b0:=HA.o.2.2.2.1.cells.1;have b1:=HA.o.2.2.2.1.cells.2.1;have b2:=HA.o.2.2.2.1.cells.2.2;clear ck bw)
  | (go_at_call 229;obtain⟨qa,qn,qc,qf,fg,L⟩:=HA.o.2.2.1.qu;have HQ:=Zz L;refine (PE w1 P B qn qc qf J b qa fg e.queue id L HA.o.2.2.2.1.gone).mono ?_;rintro _ w2 ⟨rfl,fh,W,au⟩;have aj:=HA.o.2.2.1.queue L au ⟨_,_,_,_,_,W⟩;have N:=HA.o.2.2.2.1.rf L au al E;have cu:=HA.o.2.2.2.2.trans (KF.Qx L au ob) (As.refl _ _);have HD:=Zz (Zq aj (Zq N cu));have c0:=N.cells.1;have c1:=N.cells.2.1;have c2:=N.cells.2.2;have HS:=Zz (Hl (w2.alloc (.cells #[.int .i64 0] 280)) P B now w2.heap.size l id (-1) [0] (aj.wh.Ak (ZV.alloc ZU _)) (fun q L=>by simp only[QDd] at L;subst L;exact FM p.o.2.2.2.2.1 p.o.2.2.2.2.2 (by decide) (by decide) (by decide) (by decide)) (Fm w2 [0]) (by have:=aj.pb;omega) (by decide));clear L W au aj N cu)
  | (go_at_call 152;refine HS.o.mono ?_;rintro _ w3 ⟨rfl,l3,X,Z,c⟩;have Q:=(HD.o.1.below (ZV.alloc ZU (.cells #[.int .i64 0] 280))).Dh c Z;have g:=(HD.o.2.1.below (ZV.alloc ZU (.cells #[.int .i64 0] 280))).pf c al E;have O:=(HD.o.2.2.trans (KF.Ae P B ob (ZV.alloc ZU (.cells #[.int .i64 0] 280))) (As.refl _ _)).trans (KF.DL c ob) (As.refl _ _);have ae:=Zz (Zq X (Zq Q (Zq g O)));have d0:=g.cells.1;have d1:=g.cells.2.1;have d2:=g.cells.2.2;clear X Z c Q g O))
 have db:Bk l:=H.o.2.2.2.2.2.2.1.wh.apart;have de:=Ms.first H.o.2.2.2.2.2.1.1 db ae.o.1;have dy:=Zz de;clear de db c0 c1 c2 d0 d1 d2 b1 b2
 go_loopw [28] (fun iv wr=>∃(j:Nat) (lj:List Tm),iv=.int .i64 j/\j<=n/\Dq qh wr P B ob (rs.set i (r.ended st)) el (Zd2 e.queue id) now lj e.Ah e.Ai e.Ar/\Ew wr J b r.ng n r.nc id/\Ms l id j lj/\KF w wr P B ob) (fun iv _=>n - (intOf iv).toNat)
 case atStart=>exact⟨0,_,rfl,by omega,ae.o.2.1,ae.o.2.2.1,dy.o,ae.o.2.2.2⟩
 case round =>
  obtain⟨j,lj,rfl,hj,R,ag,bo,bj⟩:=hrel;have M:=Zz (Zq R (Zq ag (Zq bo bj)));obtain⟨x0,x1,x2⟩:=ag.cells;by_cases h1:j<n
  .have j1:(j:Int)<(n:Int):=by omega
   have dw:=Zz (Hl (wr.alloc (.cells #[.int .i64 1,.int .i64 2,.int .i64 3] 280)) P B now wr.heap.size lj id j [1,2,3] (R.wh.Ak (ZV.alloc ZU _)) (fun q L=>by
    have W:0<=q/\q<4:=by simp only[QDc,QCq,or_false] at L;rcases L with rfl | rfl | rfl<;>decide
    exact FM p.o.2.2.2.2.1 p.o.2.2.2.2.2 (by omega) (by omega) W.1 W.2) (Fm wr [1,2,3]) (by have:=R.pb;omega) (by decide))
   clear R ag bo bj;go_wp2_with (go_at_call 152;refine dw.o.mono ?_;rintro _ w3 ⟨rfl,l3,X,Z,c⟩;have Q:=(M.o.1.below (ZV.alloc ZU (.cells #[.int .i64 1,.int .i64 2,.int .i64 3] 280))).Dh c Z;have g:=(M.o.2.1.below (ZV.alloc ZU (.cells #[.int .i64 1,.int .i64 2,.int .i64 3] 280))).pf c al E;have O:=(M.o.2.2.2.trans (KF.Ae P B ob (ZV.alloc ZU (.cells #[.int .i64 1,.int .i64 2,.int .i64 3] 280))) (As.refl _ _)).trans (KF.DL c ob) (As.refl _ _);have HN:=Zz (Zq X (Zq Q (Zq g O)));clear X Z c Q g O)
   go_roundw
   case rel =>
    obtain⟨q1,q2,q3,q4⟩:=HN.o;exact⟨j+1,l3,by go_num,by omega,q2,q3,M.o.2.2.1.next M.o.1.wh.apart q1,q4⟩
   case measure=>simp[intOf];omega
  .have e1:j=n:=by omega
   have HJ:=Zz e1;have j1:¬(j:Int)<(n:Int):=by omega
   clear h1 e1 R ag bo bj
   go_upto_region 9 with fail
   obtain⟨ea,en,ec,ef,ee,he,S⟩:=M.o.1.en;have dr:=Zz (Zq he S);obtain⟨wp,I⟩:∃wp,wp=(wr.drew).alloc (.cells #[.int .u64 id] 27):=⟨_,rfl⟩;have ar:ZY wr wp:=by rw[I];exact (ZV.drew).alloc ZU _
   have U:FU wp wr.heap.size id:=by
    refine⟨by rw[I];simp,fun m u hm=> ?_⟩;unfold AF at hm
    match m,hm with
    | 0,hm =>
     simp at hm;subst hm;unfold QEk;rw[I];have:=heap_alloc_new wr.drew (.cells #[.int .u64 id] 27);rw[show wr.drew.heap.size=wr.heap.size from rfl] at this;rw[this];rfl
   have V:=M.o.1.pb
   have y:el.length<=400:=by
    obtain⟨is,q1,q2,q3⟩:=H.o.2.2.2.2.2.2.2.2.1;have ei:is.Nodup:=q3.imp (fun {a b} fj e=>by subst e;omega);have:=Fs is (QAr e.runs.length) ei (fun k hk=>List.mem_range.2 ((q2 k).1 hk).1);rw[QHq] at this;have:=H.o.2.1.WL;rw[q1,QIs];omega
   have A:=QH wp P B en ec ef wr.heap.size ea ee el id (he.below ar) U (by omega) (fun e=>by have:=(he.row.lt _ e.symm).2;omega) y
   have T:∀w3,RF wp w3 P (QFv ea en ec).ownBlock 5 8->(w3.cell? ⟨J,0,none⟩=some (.pointer (some ⟨b,0,none⟩))/\w3.cell? ⟨b,0,none⟩=some (.int .u64 id)):=by
    intro w3 c
    have no:∀{k:Nat} {cs:Array Value} {t:TypeId} {fr:Nat×Nat},wr.heap[k]? =some (.cells cs t fr)->t≠27->some k≠(QFv ea en ec).ownBlock:=by
     intro k cs t fr e ht hk;rcases he.row.2 with⟨h2,_⟩ | ⟨g',cap,cur,h2,_,hh,_⟩
     .rw[h2] at hk;simp[QCi] at hk
     .rw[h2] at hk
      simp only[QCi,QCf] at hk;subst hk;exact Zah e hh ht rfl
    have hx:=M.o.2.1.x;have ht:=M.o.2.1.top.choose_spec;have hC:=M.o.2.1.below ar;have g:=hC.at_ (c.block J (Zaa hC.x) al (no hx (by decide))) (c.block b (Zaa hC.top.choose_spec) E (no ht (by decide)));exact⟨g.cells.1,g.cells.2.1⟩
   rw[I] at A T;have HP:=Zz (Zq A T);have HQ:=Zz (Zq ar I);have ep:=QIr wr ⟨J,0,none⟩ x0;have ey:=QIr wr ⟨b,0,none⟩ x1;clear he S ar U A T V y I
   go_region_held3 (fun w'=>w'.cell? ⟨J,0,none⟩=some (.pointer (some ⟨b,0,none⟩))/\w'.cell? ⟨b,0,none⟩=some (.int .u64 id)) (go_keep) ((go_at_call 190;refine HP.o.1.mono ?_;rintro e w3 ⟨rfl,ax⟩;have du:=Zz ax;have v0:=(HP.o.2 w3 ax.choose_spec.choose_spec.choose_spec.choose_spec.choose_spec.2.1).1;have v1:=(HP.o.2 w3 ax.choose_spec.choose_spec.choose_spec.choose_spec.choose_spec.2.1).2;clear ax))
   all_goals
    go_wp2_with fail
    go_end0
    obtain⟨a',n',c',f',fh,p1,p2,p3⟩:=du.o;obtain⟨k1,k2⟩:=HQ.o;rw[<-k2] at p2 p3;obtain⟨he,S⟩:=dr.o;obtain⟨hX,wk,hi,h1,cm,hT,hM,ay,y,v,s,hr,K,G⟩:=H.o;obtain⟨m1,m2,m3,m4⟩:=M.o;have ez:RF wr w3 P (QFv ea en ec).ownBlock 5 8:=(RF.Ae P _ 5 8 k1).trans p2 (fun z hz=>Zu hz);have da:=m1.ended he ez ⟨_,_,_,_,_,p1,rfl⟩;have bh:=DR (e:=e) (e':=e.end_ i st) (f:=Zd6 st e.ends) hX.len hX.runs hi rfl (by rw[<-K];exact s.ended st e.ends (by omega));have bp:=fun x hx=>Zej e i st (j:=x) hx;have dd:=wk.runs i hi;refine⟨rfl,rs.set i (r.ended st),lj,(QFv a' n' c').ownBlock,⟨⟨el++[id],now,?_,ay,?_⟩,bh.1,bh.2⟩,?_,?_,?_,?_⟩
    .rw[p.o.2.1,K] at da ⊢
     exact da
    .rw[p.o.2.1,K]
     refine y.snoc (e':=e.end_ i st) (Zea e i st) hi ((dd.goes).1 (by rw[<-K];exact h1)) (fun x hx fe=> ?_) ?_ ?_ wk.Xs (fun x hx=>(wk.runs x hx).enB)
     .rw[bp x hx,if_neg (fun e=>fe e.symm)];exact⟨rfl,rfl⟩
     .rw[bp i hi,if_pos rfl];rfl
     .rw[bp i hi,if_pos rfl];rfl
    .refine⟨by rw[QAo],fun x hx=> ?_⟩
     rw[Zdi G hx]
     split
     .rename_i e;subst e;rw[hr];rfl
     .rfl
    .have dh:=m3
     rw[p.o.2.1,K,HJ.o,p.o.2.2.1,K] at dh;exact dh.done wk hi (by omega) hT
    .refine (m4.trans (KF.Ae P B ob k1) (As.refl _ _)).trans ?_ (As.refl _ _)
     have:=KF.Wj (he.below k1) p2;rw[S] at this;exact this
    .intro z hz
     rcases p3 z hz with h | h
     .left;rw[<-S];exact h
     .right
      have:=m4.size;have:=k1.size;omega
theorem IM {qh:Nat}(w:World)(P B:Nat)(ob:Option Nat)(e:Ab)(rs:List Aq)(l:List Tm)(i:Nat)(h:Ch qh w P B ob e rs l)(wk:Ao e)(hi:i<e.runs.length)(K:(e.at_ i).st=1)(t:Bf e l)(D:e.Ah<18446744073709551616) :
  Calls prog 155 #[.pointer (some ⟨P,4,none⟩),.pointer (some ⟨(Am rs i).b,0,none⟩)] w fun x w'=>x=.returned (.tuple #[])/\∃g u f,Ch qh w' P B f (e.settle i) g u/\BQ rs g/\Bf (e.settle i) u/\KF w w' P B ob/\As w ob f:=by
 obtain⟨el,now,A,s,r⟩:=h.ex;obtain⟨R,S,n⟩:=A.kn;have C:i<rs.length:=by rw[h.len];exact hi
 have m:=n.runs i C;have k:=h.runs i hi;have q:=Zz (OJ w B (Am rs i) m);have d:=k.outcome;rw[d] at q
 cases c:(e.at_ i).outcome with
 | none =>
  rw[c] at q;have y:=Zz (show e.settle i=e by unfold Ab.settle;rw[c]);have H:=Zz (Zq h t);clear h t A n m k d c r s;have j:Hid (Calls prog 226 #[.pointer (some ⟨(Am rs i).b,0,none⟩)] w fun e w'=>e=.returned (.int .i64 1)/\ZY w w'):=q
  go_enter func155,ntmps155
  go_wp2_with (go_at_call 226;refine j.o.mono ?_;rintro _ v ⟨rfl,a⟩;have p:=Zz a;clear a)
  go_end0
  rw[y.o];exact⟨rfl,rs,l,ob,H.o.1.below p.o,BQ.refl _,H.o.2,KF.Ae P B ob p.o,As.refl _ _⟩
 | some st =>
  rw[c] at q;have E:=Zdz c;have y:=Zz (show e.settle i=e.end_ i st by unfold Ab.settle;rw[c]);have HF:=Zz (fun v a=>JX v P B ob e rs l i st (h.below a) wk hi K (by omega) (t.toE i) D);clear h t A n m k d c r s;have j:Hid (Calls prog 226 #[.pointer (some ⟨(Am rs i).b,0,none⟩)] w fun e w'=>e=.returned (.int .i64 st)/\ZY w w'):=q;have g1:(st != 1)=true:=by rcases E with rfl | rfl<;>decide
  have J:decide (st=1)=false:=decide_eq_false (by omega);have F:¬st=1:=by omega
  go_enter func155,ntmps155
  go_wp2_with (first
   | (go_at_call 226;refine j.o.mono ?_;rintro _ v ⟨rfl,a⟩;have p:=Zz a;clear a)
   | (go_at_call 158;refine (HF.o v p.o).mono ?_;rintro _ T ⟨rfl,G⟩;have I:=Zz G;clear G))
  go_end0
  obtain⟨g,u,f,q1,M,N,O,Q⟩:=I.o;rw[y.o];refine⟨rfl,g,u,f,q1,M,N,(KF.Ae P B ob p.o).trans O (As.refl _ _),fun z L=> ?_⟩;rcases Q z L with h | h
  .exact Zu h
  .right;have:=p.o.size;omega
