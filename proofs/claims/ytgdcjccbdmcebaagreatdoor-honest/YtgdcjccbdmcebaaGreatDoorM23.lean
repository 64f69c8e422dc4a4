import Derived.Test.YtgdcjccbdmcebaaGreatDoorM20
set_option linter.all false
set_option maxHeartbeats 16000000
set_option maxRecDepth 100000
open Go.Proofs.Tryz
open Go renaming wpList_append_lies->QJt,heap_alloc_new->QFm,cell_later->QFa
open Go.Value renaming oneCell'->QFu,slice->QFv,ownBlock->QCi
open Go.World renaming news_of_block->QJh,frozen?_of_block->QDx,cell?_setCell_same->QDz,cell?->QEk,cell?_of_block->QEc
open List renaming mem_cons_self->QDa,flatMap_append->QHe,map_congr_left->QIj,flatMap_singleton->QJu,length_singleton->QGq
open Option renaming some.injEq->QCf
namespace Go.Proofs.YtgdcjccbdmcebaaGreatDoor
open Go.RowKit
attribute [local go_sem ↓] Go.wp_at_zero Go.wp_at_succ
theorem Yd {α:Type}{z:α}{l:List α}{o i:Nat}(a:o<l.length):(CG l o).getD i z=l.getD (if i<o then i else i+1) z:=LI l o i a
theorem Rk {rs:List Aq}{o i:Nat}(a:o<rs.length):Am (CG rs o) i=Am rs (if i<o then i else i+1):=Yd (z:=Aq.z) a
theorem GF.known {w w':World}{P g:Nat}(h:AA w w' g)(d:P<w.heap.size)(hg:P≠g)(v:Value):GF w (w'.setCell ⟨P,4,none⟩ v) P (fun o=>o=4) (fun k=>k=g):=by
 have a:=h.gf d hg;have c:=GF.set w' P 4 v;exact⟨Zv a.size c.size,fun k hk b e=>(c.block k (Zy hk a.size) b (fun x=>x)).trans (a.block k hk b e),fun o f=>(c.off o f).trans (a.off o (fun x=>x)),fun o=>(c.AD o).trans (a.AD o)⟩
theorem KF.known {w w':World}{P B g:Nat}(h:AA w w' g)(l:P<w.heap.size)(hg:P≠g)(m:B<=g){cs:Array Value}{fr:Nat×Nat}(hh:w.heap[g]? =some (.cells cs 266 fr))(v:Value)(ob:Option Nat):KF w (w'.setCell ⟨P,4,none⟩ v) P B ob:=by
 have a:=GF.known h l hg v;refine⟨h.os,h.tape,h.output,a.size,fun k hk c d=>a.block k hk c (fun e=> ?_),fun _ o n=>a.off o (by omega),fun _ o=>a.AD o⟩;subst e;rcases d with d | ⟨f,t,i,b,_,_,j,_⟩
 .omega
 .rw[hh] at b
  simp only[QCf,Obj.cells.injEq] at b;exact j b.2.1.symm
theorem Dq.known {qh:Nat}{w w':World}{P B g:Nat}{ob:Option Nat}{rs d:List Aq}{el:List Int}{qu:List Ba}{now:Nat}{l:List Tm}{lr lt sd:Int}(h:Dq qh w P B ob rs el qu now l lr lt sd)(hf:GF w w' P (fun o=>o=4) (fun k=>k=g)){cs:Array Value}{fr:Nat×Nat}(hh:w.heap[g]? =some (.cells cs 266 fr))(hk:∃u v,Cd qh w' P B u v d):Dq qh w' P B ob d el qu now l lr lt sd:=by
 obtain⟨a,n,c,f,x,r,i⟩:=h.en;obtain⟨m,n',p,q,j,s⟩:=h.qu
 refine⟨hk,⟨a,n,c,f,x,r.gf hf (fun o _ _=>by omega) (fun k cs t fr _ e b _=>Zah e hh (by subst b;decide)),i⟩,⟨m,n',p,q,j,s.gf hf (fun o _ _=>by omega) (fun k cs t fr _ e b=>Zah e hh (by subst b;decide))⟩,
  h.wh.gf hf (fun o _ _=>by omega) (fun k cs t fr _ e b=>Zah e hh (by subst b;decide)) (fun k es c _ e hk=>by subst hk;rw[hh] at e;cases e),(hf.off 728 (by omega)).trans h.lr,(hf.off 729 (by omega)).trans h.lt,(hf.off 730 (by omega)).trans h.sd,fun o=>(hf.AD o).trans (h.fz o),Zy h.qs hf.size⟩
theorem Cd.cut {qh:Nat}{w w':World}{P B g r o:Nat}{rs:List Aq}(h:Cd qh w P B (some ⟨g,0,none⟩) r rs)(C:o<rs.length)(q:BA w' B 266 1 Ln (some ⟨g,0,none⟩) r (CG rs o))(hf:AA w w' g):Cd qh (w'.setCell ⟨P,4,none⟩ (.slice (some ⟨g,0,none⟩) (CG rs o).length r)) P B (some ⟨g,0,none⟩) r (CG rs o):=by
 have A:P<w.heap.size:=Zy h.pb h.bs;obtain⟨_,cur,e,D,_,_,_,hh⟩:=Zdx h.row (by omega);obtain rfl:g=_:=by simpa using e
 have d:P≠g:=by have:=h.pb;omega
 have f:=GF.known hf A d (.slice (some ⟨g,0,none⟩) (CG rs o).length r);have hl:=Zes C;have b:∀i,i<(CG rs o).length->∃j,j<rs.length/\Am (CG rs o) i=Am rs j/\(j=if i<o then i else i+1):=fun i hi=>⟨_,by split<;>omega,Rk C,rfl⟩
 refine⟨?_,fun x=>(f.AD x).trans (h.fz x),?_,fun i hi=> ?_,fun i j hi p e=> ?_,fun i j hi p e=> ?_,h.pb,Zv h.bs f.size,by have:=h.Br;omega⟩
 .have:=hf.block P A d
  have n:w'.cell? ⟨P,4,none⟩=w.cell? ⟨P,4,none⟩:=QEc (a:=⟨P,4,none⟩) this;exact QDz _ _ _ (n.trans h.c)
 .exact Zef q (Ne.symm d) _
 .obtain⟨j,p,e,_⟩:=b i hi
  rw[e];refine (h.runs j p).Cv (fun k cs t fr hk e E=>f.block k (Zaa e) (by have:=h.pb;omega) (Zah e hh (by rcases E with rfl | rfl | rfl<;>decide)))
 .obtain⟨y,l,s,u⟩:=b i hi
  obtain⟨z,m,n,v⟩:=b j p;rw[s,n] at e;have:=h.bA y z l m e;rw[u,v] at this
  split at this<;>split at this<;>omega
 .obtain⟨y,l,s,u⟩:=b i hi
  obtain⟨z,m,n,v⟩:=b j p;rw[s,n] at e;have:=h.gA y z l m e;rw[u,v] at this
  split at this<;>split at this<;>omega
theorem Gw.first {e:Ab}{el:List Int}{o:Nat}(h:Gw el e)(wk:Ao e)(y:Zdb e.runs e.runs.length=some o):∃g,el=(e.at_ o).id::g/\Gw g (e.cut o):=by
 obtain⟨is,rfl,n,u⟩:=h;obtain⟨o1,o2,o3⟩:=DM y;have hm:o∈is:=(n o).2 ⟨o1,o2⟩
 cases is with
 | nil=>cases hm
 | cons a is =>
  have w:a=o:=by
   have p:=List.pairwise_cons.1 u;rcases List.mem_cons.1 hm with q | q
   .exact q.symm
   .have k:=p.1 o q
    have f:=(n a).1 (QDa ..);have l:=o3 a f.1 f.2;have:(e.at_ a).ended<(e.at_ o).ended:=k;have:(e.at_ o).ended<=(e.at_ a).ended:=l;omega
  subst w;have p:=List.pairwise_cons.1 u
  have m:∀i,i∈is->i≠a:=fun i hi v=>by
   have:=p.1 i hi;rw[v] at this;omega
  have x:=Zer e o1
  have d:∀i,i∈is->(e.cut a).at_ (if i<a then i else i - 1)=e.at_ i:=fun i hi=>by
   have:=m i hi;rw[Gd e o1];by_cases c:i<a
   .rw[if_pos c,if_pos c]
   .rw[if_neg c,if_neg (by omega),show i - 1+1=i by omega]
  refine⟨is.map (fun i=>(e.at_ i).id),by simp,is.map (fun i=>if i<a then i else i - 1),?_,fun i=> ?_,?_⟩
  .rw[List.map_map]
   refine QIj (fun i hi=> ?_);simp only[Function.comp];rw[d i hi]
  .rw[List.mem_map]
   constructor
   .rintro⟨j,b,rfl⟩
    have f:=(n j).1 (List.mem_cons_of_mem _ b);have:=m j b;rw[d j b];refine⟨?_,f.2⟩;have:=f.1
    split<;>omega
   .rintro⟨q,k⟩
    rw[Gd e o1] at k;obtain⟨j,b⟩:∃j,j=if i<a then i else i+1:=⟨_,rfl⟩
    rw[<-b] at k;have s:j≠a:=by rw[b];split<;>omega
    have t:j<e.runs.length:=by rw[b];split<;>omega
    have f:=(n j).2 ⟨t,k⟩;rcases List.mem_cons.1 f with l | l
    .exact absurd l s
    .refine⟨j,l,?_⟩
     rw[b];by_cases c:i<a
     .rw[if_pos c,if_pos c]
     .rw[if_neg c,if_neg (by omega)];omega
  .rw[List.pairwise_map]
   refine p.2.imp_of_mem (fun {i j} hi b r=> ?_);rw[d i hi,d j b];exact r
theorem UM {e:Ab}{o:Nat}(a:o<e.runs.length)(d:(e.at_ o).st≠1)(t:Tm):BH (e.cut o) t↔BH e t:=by
 have hl:=Zer e a;constructor
 .rintro⟨i,hi,h⟩
  rw[Gd e a] at h;exact⟨_,by split<;>omega,h⟩
 .rintro⟨i,hi,h⟩
  have f:i≠o:=fun b=>d (by rw[<-b];exact h.1)
  refine⟨if i<o then i else i - 1,by split<;>omega,?_⟩;rw[Gd e a];by_cases c:i<o
  .rw[if_pos c,if_pos c];exact h
  .rw[if_neg c,if_neg (by omega),show i - 1+1=i by omega];exact h
theorem Bf.cut {e:Ab}{l:List Tm}{o:Nat}(h:Bf e l)(b:o<e.runs.length)(a:(e.at_ o).st≠1):Bf (e.cut o) l:=by
 rw[Zbc] at h ⊢;exact⟨h.1,fun t=>(h.2 t).trans (UM b a t).symm⟩
theorem Ow {qh:Nat}(w:World)(P B:Nat)(ob:Option Nat)(e:Ab)(rs:List Aq)(l:List Tm)(o:Nat)(h:Ch qh w P B ob e rs l)(wk:Ao e)(hT:Bf e l)(ho:Zdb e.runs e.runs.length=some o) :
  Calls prog 196 #[.pointer (some ⟨P,4,none⟩)] w fun x w'=>x=.returned (.tuple #[])/\Ch qh w' P B ob (e.cut o) (CG rs o) l/\Bf (e.cut o) l/\KF w w' P B ob:=by
 obtain⟨el,now,C,z,M⟩:=h.ex;obtain⟨o1,o2,_⟩:=DM ho;have ax:(e.at_ o).st≠1:=fun x=>by have:=((wk.runs o o1).goes).1 x;have o2:0<(e.at_ o).ended:=o2;omega
 obtain⟨E,rfl,d⟩:=M.first wk ho;obtain⟨ea,en,ec,ef,Y,b,v⟩:=C.en;obtain⟨ka,D,p⟩:=C.kn;have f:o<rs.length:=by rw[h.len];exact o1
 obtain⟨g,hg,au,bj,al,bh,_⟩:=p.ptr (by omega);subst hg;obtain⟨id,m⟩:∃id,id=(e.at_ o).id:=⟨_,rfl⟩;rw[<-m] at b C;have bf:=C.pb;have K:=Zz (Tx w P B en ec ef ea Y E id b);have u:P≠g:=by omega
 have HP:=Zz (Zq h (Zq C (Zq z (Zq d (Zq b (Zq v (Zq p (Zq f (Zq m (Zq o1 u))))))))));have aw:=p.Br;obtain⟨n,hn⟩:∃n,n=rs.length:=⟨_,rfl⟩;have X:=Zz hn;rw[<-hn] at au aw;clear h C z d b v p m M f hn
 go_enter func196,ntmps196
 go_upto_region 1 with (go_at_call 266;refine K.o.mono ?_;rintro _ I ⟨rfl,hp⟩;have HQ:=Zz hp;clear hp)
 have az:w.heap.size<=I.heap.size:=by obtain⟨_,_,_,q⟩:=HQ.o;exact q.size
 obtain⟨r,F⟩:∃r,r=I.alloc (.cells #[.int .u64 id] 27):=⟨_,rfl⟩;obtain⟨fx,H⟩:∃fx,fx=I.heap.size:=⟨_,rfl⟩;rw[<-F,<-H];have ay:P<I.heap.size:=by omega
 have y:ZY I r:=by rw[F];exact ZV.alloc ZU _
 have L:r.heap[fx]? =some (.cells #[.int .u64 id] 27 (0,0)):=by rw[F,H];exact QFm I _
 have W:=Zz (show ∃V G,Dq qh r P B ob rs E e.queue now l e.Ah e.Ai e.Ar/\Cd qh r P B (some ⟨g,0,none⟩) D rs/\KF w r P B ob/\FA r B g D fx rs o id/\Gv r P B ea en ec V G E by
  obtain⟨h,C,z,d,b,v,p,f,m,o1,u⟩:=HP.o;obtain⟨V,G,k1,k2⟩:=HQ.o;have Z:=C.ended b k2 ⟨_,_,_,_,_,k1,v⟩
  have Q:Cd qh I P B (some ⟨g,0,none⟩) D rs:=p.gf (GF.Wi k2 C.pl) (by omega) (fun k cs t fr hB e ht hk=>by
   rcases b.row.2 with⟨A,_⟩ | ⟨g',cap,cur,A,hg,hh,_⟩
   .rw[A] at hk;simp[QCi] at hk
   .rw[A] at hk
    simp only[QCi,QCf] at hk;exact Zah e hh (by rcases ht with rfl | rfl | rfl | rfl<;>decide) hk)
  have O:=KF.Wj b k2;rw[v] at O;have s:=Q.below y;refine⟨V,G,Z.below y,s,O.trans (KF.Ae P B ob y) (As.refl _ _),⟨s.row,fun j hj=>⟨_,_,(s.runs j hj).top,rfl⟩,L,f,?_,fun j hj ar=> ?_,s.Br⟩,k1.below y⟩
  .rw[(h.runs o o1).id];exact m.symm
  .have N:j<e.runs.length:=by rw[<-h.len];exact hj
   rw[(h.runs j N).id,m];exact fun x=>ar (wk.Cy N o1 x))
 have c4:r.cell? ⟨P,4,none⟩=some (.slice (some ⟨g,0,none⟩) n D):=by
  obtain⟨_,_,_,A,_⟩:=W.o;rw[X.o];exact A.c
 have HD:=Zz (show Calls prog 267 #[.slice (some ⟨g,0,none⟩) n D,.func (.func 268) #[] #[.pointer (some ⟨fx,0,none⟩)]] r fun x J=>x=.returned (.slice (some ⟨g,0,none⟩) (CG rs o).length D)/\BA J B 266 1 Ln (some ⟨g,0,none⟩) D (CG rs o)/\AA r J g/\(J.cell? ⟨P,4,none⟩=some (.slice (some ⟨g,0,none⟩) n D)/\J.frozen? ⟨P,4,none⟩=false) by
  obtain⟨_,_,_,A,_,h4,_⟩:=W.o;have:=UG r B g D fx rs o id h4;rw[<-X.o] at this;refine this.mono ?_;rintro x J ⟨rfl,q1,q2⟩;have ag:P<r.heap.size:=Zy A.pb A.bs;have e1:=q2.block P ag u;refine⟨rfl,q1,q2,?_,?_⟩
  .rw[X.o];exact (QEc (a:=⟨P,4,none⟩) e1).trans A.c
  .exact (QDx (a:=⟨P,4,none⟩) e1).trans (A.fz 4))
 clear F H y L;go_wp2_with (go_at_call 267;refine HD.o.mono ?_;rintro _ J ⟨rfl,T,S,z1,z2⟩;have U:=Zz (Zq T S);clear T S)
 go_end0
 obtain⟨V,G,m1,m2,m3,m4,m5⟩:=W.o;obtain⟨h,C,z,d,b,v,p,f,m,o1,u⟩:=HP.o
 obtain⟨cs,hh⟩:∃cs,r.heap[g]? =some (.cells cs 266 (0,0)):=by
  obtain⟨_,cur,e,_,_,_,_,hh⟩:=Zdx m4.row (by omega);obtain rfl:g=_:=by simpa using e
  exact⟨cur,hh⟩
 have aj:=GF.known U.o.2 m1.pl u (.slice (some ⟨g,0,none⟩) (CG rs o).length D);have R:=m2.cut f U.o.1 U.o.2;have ae:=m1.known aj hh ⟨_,_,R⟩;refine⟨rfl,⟨⟨E,now,ae,z,d⟩,?_,fun i hi=> ?_⟩,hT.cut o1 ax,m3.trans (KF.known U.o.2 m1.pl u al hh _ ob) (As.refl _ _)⟩
 .have:=Zes f
  have:=Zer e o1;have:=h.len;omega
 .have:=Zer e o1
  rw[Rk f,Gd e o1];exact h.runs _ (by split<;>omega)
open Go.RowKit
theorem An.nf {w w':World}{P B c:Nat}{F:Ad}{a:Option Addr}{k:Nat}{d:Nat->Option Addr}{f:Nat->Nat}(h:An B w F (.slice a F.n c) k d f)(hb:∀g cs t fr,B<=g->w.heap[g]? =some (.cells cs t fr)->(t=130\/t=3)->w'.heap[g]? =w.heap[g]?):An B w' F (.slice a F.n c) k d f:=by
 have key:∀{e:TypeId} {size n:Nat} {v:Value} {xs:List Value},(e=130\/e=3)->w.ownsRow B e size v n xs->w'.ownsRow B e size v n xs:=by
  intro e size n v xs he j;refine⟨j.1,?_⟩;rcases j.2 with b | ⟨g,cap,cur,b,hg,hh,r⟩
  .exact Zu b
  .exact Zj ⟨g,cap,cur,b,hg,(hb g _ _ _ hg hh he).trans hh,r⟩
 exact⟨key (Zu rfl) h.own,fun i hi=>key (Zj rfl) (h.DW i hi)⟩
theorem An.side {w w':World}{P B c:Nat}{F:Ad}{a:Option Addr}{k:Nat}{b:Nat->Option Addr}{d:Nat->Nat}(h:An B w F (.slice a F.n c) k b d)(hn:NF w w' P B):An B w' F (.slice a F.n c) k b d :=
 h.nf (P:=P) (fun g cs t fr hg e f=>hn.block g cs t fr hg e (by unfold Rb;rcases f with rfl | rfl<;>simp))
theorem An.kf {w w':World}{P B c:Nat}{ob:Option Nat}{F:Ad}{a:Option Addr}{k:Nat}{d:Nat->Option Addr}{f:Nat->Nat}(h:An B w F (.slice a F.n c) k d f)(hf:KF w w' P B ob)(i:P<B):An B w' F (.slice a F.n c) k d f :=
 h.nf (P:=P) (fun g cs t fr hg e b=>hf.block g (Zaa e) (by omega) (Zj ⟨cs,t,fr,e,by rcases b with rfl | rfl<;>decide,by rcases b with rfl | rfl<;>decide,by rcases b with rfl | rfl<;>decide,by rcases b with rfl | rfl<;>decide,by rcases b with rfl | rfl<;>decide,fun x=>by rcases b with rfl | rfl<;>exact absurd x (by decide)⟩))
theorem Bu.fresh {r:Aq}{e:Ab}{F:Ad}{b:Nat->Option Addr}{c:Nat->Nat}(f:r.id=e.Ah+1)(g:r.st=1)(d:r.ns=Zcw F b c F.n):Bu r (e.fresh F):=by
 have a:∀k,k<F.n->r.at_ k=Zds F b c k:=fun k hk=>by unfold Aq.at_;rw[d];exact LH hk
 have hl:=Zb9 e F;refine⟨f,g,by rw[d,JP,hl],fun k hk=> ?_,fun _ k hk=> ?_,fun h=>absurd rfl h⟩
 .rw[hl] at hk
  rw[a k hk,Zdk e F hk];exact⟨rfl,rfl⟩
 .rw[hl] at hk
  rw[a k hk,Zdk e F hk];exact⟨rfl,rfl,rfl,rfl,rfl,rfl,rfl,rfl⟩
theorem Gw.more {el:List Int}{e:Ab}{F:Ad}(h:Gw el e):Gw el (e.more F):=by
 obtain⟨is,rfl,f,g⟩:=h;have a:∀i,i∈is->i<e.runs.length:=fun i hi=>((f i).1 hi).1;refine⟨is,QIj (fun i hi=>by rw[Zb4 e F (a i hi)]),fun i=> ?_,g.imp_of_mem (fun {i j} hi k d=>by rw[Zb4 e F (a i hi),Zb4 e F (a j k)];exact d)⟩;rw[f,Za5];constructor
 .rintro⟨q1,b⟩
  exact⟨by omega,by rw[Zb4 e F q1];exact b⟩
 .rintro⟨q1,b⟩
  by_cases c:i<e.runs.length
  .rw[Zb4 e F c] at b;exact⟨c,b⟩
  .have:i=e.runs.length:=by omega
   subst this;rw[Zbl] at b;exact absurd b (by show ¬(0:Int)<0;omega)
theorem Ph {e:Ab}(wk:Ao e){F:Ad}(o:1<=F.dl){l c:List Tm}(j:Bf e l)(k:Bk l){x:Int}(b:BZ l (Bc (e.Ah+1) (-1) 0) x c):Bf (e.more F) (c++[⟨Bc (e.Ah+1) (-1) 0,Zao e.time F.dl,e.timers+1⟩]):=by
 have a:=Zbc.1 j;have hg:=b.gone k;rw[Zbc];refine⟨DP (b.rising a.1) (T:=e.timers) (fun t n=>((a.2 t).1 ((hg t).1 n).1).sq wk) (by show e.timers<e.timers+1;omega),fun t=> ?_⟩;rw[List.mem_append,List.mem_singleton,hg,a.2,Sv];constructor
 .rintro (⟨q1,p⟩ | h)
  .exact Zu q1
  .exact Zj h
 .rintro (h | h)
  .refine Zu ⟨h,fun d=> ?_⟩
   obtain⟨i,hi,m⟩:=h;have f:=m.of (wk.IS hi);have g:ID (e.Ah+1) t:=⟨-1,0,by omega,by omega,d⟩;have:=f.uniq g;have:=wk.Rr i hi;omega
  .exact Zj h
theorem GF.knownB {w w':World}{P:Nat}{ob:Option Nat}(h:w.grownBy w' ob)(d:P<w.heap.size)(hg:some P≠ob)(v:Value):GF w (w'.setCell ⟨P,4,none⟩ v) P (fun o=>o=4) (fun k=>some k=ob):=by
 have b:=GF.set w' P 4 v;have e:=h.block P d hg;exact⟨Zv h.size b.size,fun k hk c f=>(b.block k (Zy hk h.size) c (fun x=>x)).trans (h.block k hk f),fun o g=>(b.off o g).trans (QEc (a:=⟨P,o,none⟩) e),fun o=>(b.AD o).trans (QDx (a:=⟨P,o,none⟩) e)⟩
theorem Dq.JY {qh:Nat}{w w':World}{P B:Nat}{ob:Option Nat}{rs d:List Aq}{el:List Int}{qu:List Ba}{now:Nat}{l:List Tm}{lr lt sd:Int}{S:Nat->Prop}(h:Dq qh w P B ob rs el qu now l lr lt sd)(hf:GF w w' P (fun o=>o=4) S)(p:∀k,S k->∃cs fr,w.heap[k]? =some (.cells cs 266 fr))(hk:∃y z,Cd qh w' P B y z d):Dq qh w' P B ob d el qu now l lr lt sd:=by
 obtain⟨a,n,c,f,A,u,j⟩:=h.en;obtain⟨q,n',r,s,m,v⟩:=h.qu
 have no:∀{k:Nat} {cs:Array Value} {t:TypeId} {fr:Nat×Nat},w.heap[k]? =some (.cells cs t fr)->t≠266->¬S k:=by
  intro k cs t fr e b x;obtain⟨g,i,hh⟩:=p k x;exact Zah e hh b rfl
 refine⟨hk,⟨a,n,c,f,A,u.gf hf (fun o _ _=>by omega) (fun k cs t fr _ e b _=>no e (by subst b;decide)),j⟩,⟨q,n',r,s,m,v.gf hf (fun o _ _=>by omega) (fun k cs t fr _ e b=>no e (by subst b;decide))⟩,
  h.wh.gf hf (fun o _ _=>by omega) (fun k cs t fr _ e b=>no e (by subst b;decide)) (fun k es c _ e hk=>by obtain⟨g,i,hh⟩:=p k hk;rw[hh] at e;cases e),(hf.off 728 (by omega)).trans h.lr,(hf.off 729 (by omega)).trans h.lt,(hf.off 730 (by omega)).trans h.sd,fun o=>(hf.AD o).trans (h.fz o),Zy h.qs hf.size⟩
theorem Zcp {rs:List Aq}{r:Aq}{i:Nat}(hi:i<rs.length+1):Am (rs++[r]) i=if i<rs.length then Am rs i else r:=by
 unfold Am;rw[ZQ]
 split
 .rename_i c
  rw[List.getElem?_append_left c,ZQ]
 .rename_i c
  have:i=rs.length:=by omega
  subst this;rw[List.getElem?_append_right ZU,Nat.sub_self]
  rfl
theorem Cd.snoc {qh:Nat}{w w7:World}{P B p gg f:Nat}{n:Option Addr}{rs:List Aq}{r:Aq}(h:Cd qh w P B n p rs)(K:rs.length<6)(G:AR qh w B r)(hb:∀i,i<rs.length->(Am rs i).b≠r.b)(hg:∀i,i<rs.length->(Am rs i).ng≠r.ng)(q:w.grownBy w7 (QFv n rs.length p).ownBlock)(l:BA w7 B 266 1 Ln (some ⟨gg,0,none⟩) f (rs++[r])):Cd qh (w7.setCell ⟨P,4,none⟩ (.slice (some ⟨gg,0,none⟩) (rs.length+1) f)) P B (some ⟨gg,0,none⟩) f (rs++[r])/\GF w (w7.setCell ⟨P,4,none⟩ (.slice (some ⟨gg,0,none⟩) (rs.length+1) f)) P (fun o=>o=4) (fun k=>some k=(QFv n rs.length p).ownBlock)/\(∀k,some k=(QFv n rs.length p).ownBlock->∃cs fr,w.heap[k]? =some (.cells cs 266 fr))/\some P≠(QFv n rs.length p).ownBlock:=by
 have A:P<w.heap.size:=Zy h.pb h.bs
 have v:∀k,some k=(QFv n rs.length p).ownBlock->B<=k/\∃cs fr,w.heap[k]? =some (.cells cs 266 fr):=fun k hk=>by
  rcases h.row.2 with⟨u,_⟩ | ⟨J,cap,cur,u,hg,hh,_⟩
  .rw[u] at hk;simp[QCi] at hk
  .rw[u] at hk
   simp only[QCi,QCf] at hk;subst hk;exact⟨hg,_,_,hh⟩
 have m:some P≠(QFv n rs.length p).ownBlock:=fun e=>by have:=(v P e).1;have:=h.pb;omega
 have g:=GF.knownB q A m (.slice (some ⟨gg,0,none⟩) (rs.length+1) f)
 have y:gg≠P:=by
  obtain⟨_,cur,e,F,_⟩:=Zdx l (by rw[ZX,QGq];omega);obtain rfl:gg=_:=by simpa using e
  have:=h.pb;omega
 have Ak:∀r',AR qh w B r'->AR qh (w7.setCell ⟨P,4,none⟩ (.slice (some ⟨gg,0,none⟩) (rs.length+1) f)) B r':=fun r' z=>z.Cv (fun k cs t fr hk e I=>g.block k (Zaa e) (by have:=h.pb;omega) (fun H=>by
  obtain⟨_,C,E,hh⟩:=v k H;exact Zah e hh (by rcases I with rfl | rfl | rfl<;>decide) rfl))
 refine⟨⟨?_,fun x=>(g.AD x).trans (h.fz x),Zef l y _,fun i hi=> ?_,fun i j hi s e=> ?_,fun i j hi s e=> ?_,h.pb,Zv h.bs g.size,by rw[ZX,QGq];omega⟩,g,fun k hk=>(v k hk).2,m⟩
 .have D:w7.cell? ⟨P,4,none⟩=w.cell? ⟨P,4,none⟩:=QEc (a:=⟨P,4,none⟩) (q.block P A m)
  rw[ZX,QGq];exact QDz _ _ _ (D.trans h.c)
 .rw[ZX,QGq] at hi
  rw[Zcp hi]
  split
  .rename_i c;exact Ak _ (h.runs i c)
  .exact Ak _ G
 .rw[ZX,QGq] at hi s
  rw[Zcp hi,Zcp s] at e
  split at e<;>split at e
  .rename_i c d;exact h.bA i j c d e
  .rename_i c d;exact absurd e (hb i c)
  .rename_i c d;exact absurd e.symm (hb j d)
  .omega
 .rw[ZX,QGq] at hi s
  rw[Zcp hi,Zcp s] at e
  split at e<;>split at e
  .rename_i c d;exact h.gA i j c d e
  .rename_i c d;exact absurd e (hg i c)
  .rename_i c d;exact absurd e.symm (hg j d)
  .omega
theorem KF.JY {w w':World}{P B:Nat}{S:Nat->Prop}(f:w'.os=w.os)(b:w'.tape=w.tape)(c:w'.output=w.output)(a:GF w w' P (fun o=>o=4) S)(l:∀k,S k->B<=k/\∃cs fr,w.heap[k]? =some (.cells cs 266 fr))(ob:Option Nat):KF w w' P B ob:=by
 refine⟨f,b,c,a.size,fun k hk e g=>a.block k hk e (fun m=> ?_),fun _ o p=>a.off o (by omega),fun _ o=>a.AD o⟩;obtain⟨n,h,i,hh⟩:=l k m;rcases g with g | ⟨cs,t,fr,d,_,_,j,_⟩
 .omega
 .rw[hh] at d
  simp only[QCf,Obj.cells.injEq] at d;exact j d.2.1.symm
open Go.RowKit
attribute [local go_sem ↓] Go.wp_at_zero Go.wp_at_succ
variable {Kp:Int->World->Prop}
theorem Vm:(prog.info? 266).map (fun i=>(i.zero,i.size,i.bytes))=some (some (.pointer none),1,8):=by kernel_rfl
theorem Yi {e:Ab}{el:List Int}(h:Gw el e)(c:Zdb e.runs e.runs.length=none):el=[]:=by
 obtain⟨is,rfl,b,_⟩:=h
 cases is with
 | nil=>rfl
 | cons a is =>
  obtain⟨q1,d⟩:=(b a).1 (QDa ..);exact absurd d (OI c a q1)
structure Sub4 (qh:Nat)(w1 w4:World)(P B:Nat)(ob:Option Nat)(e e4:Ab)(rs4:List Aq)(l:List Tm)(F:Ad)(a:Option Addr)(c fb:Nat)(Na:Nat->Option Addr)(Nc:Nat->Nat):Prop where
 x:Ch qh w4 P B ob e4 rs4 l
 ok:Aj e4
 TL:Bf e4 l
 Br:e4.runs.length<6
 kf:KF w1 w4 P B ob
 cp:An B w4 F (.slice a F.n c) F.n Na Nc
 fb:w4.heap[fb]? =some (.cells #[.int .i64 F.dl,.slice a F.n c] 61 (0,0))
 is:e.AM F=some (e4.begin F)
 lr:e4.Ah=e.Ah
theorem Pd {e:Ab}{F:Ad}(h:e.runs.length<6):e.AM F=some (e.begin F):=by unfold Ab.AM;rw[if_neg (by omega)]
theorem Pb {e:Ab}{F:Ad}{o:Nat}(h:e.runs.length=6)(a:Zdb e.runs e.runs.length=some o):e.AM F=some ((e.cut o).begin F):=by unfold Ab.AM;rw[if_pos h,a];rfl
theorem Pc {e:Ab}{F:Ad}(h:e.runs.length=6)(a:Zdb e.runs e.runs.length=none):e.AM F=none:=by unfold Ab.AM;rw[if_pos h,a]
theorem GS {w w':World}{P B fb:Nat}{ob:Option Nat}{cs:Array Value}{fr:Nat×Nat}(hf:KF w w' P B ob)(h:w.heap[fb]? =some (.cells cs 61 fr))(a:fb≠P):w'.heap[fb]? =w.heap[fb]? :=hf.block fb (Zaa h) a (Zj ⟨_,_,_,h,by decide,by decide,by decide,by decide,by decide,fun x=>absurd x (by decide)⟩)
theorem IN {qh:Nat}(w:World)(P B:Nat)(ob:Option Nat)(e:Ab)(F:Ad)(a:Option Addr)(c:Nat)(Na:Nat->Option Addr)(Nc:Nat->Nat)(fn:Nat)(cs:Array Value)(h:BE qh w P B ob e)(ok:Aj e)(hF:BW F)(j6:An B w F (.slice a F.n c) F.n Na Nc)(hk:EE w P B fn cs Kp)(G:e.Ah<18446744073709551615)(hq:∀i,i<F.n->Na i≠some ⟨qh,0,none⟩) :
  Calls prog 127 #[.pointer (some ⟨P,4,none⟩),.agg #[.int .i64 F.dl,.slice a F.n c],.func (.func fn) #[] cs] w fun x w'=>(e.AM F=none/\x=.returned (.tuple #[.int .u64 0,AK 5])/\ZY w w')\/∃v e2,e.AM F=some e2/\x=.returned (.tuple #[.int .u64 (if v=0 then e.Ah+1 else 0),AK v])/\BX qh P B ob Kp e e2 v w':=by
 obtain⟨rs,l,hx,ht⟩:=h;obtain⟨w0,ft⟩:∃w0,w0=w.alloc (.cells #[.int .i64 F.dl,.slice a F.n c] 61):=⟨_,rfl⟩;obtain⟨fb,gu⟩:∃fb,fb=w.heap.size:=⟨_,rfl⟩;have de:ZY w w0:=by rw[ft];exact ZV.alloc ZU _
 have fv:w0.heap[fb]? =some (.cells #[.int .i64 F.dl,.slice a F.n c] 61 (0,0)):=by rw[ft,gu];exact QFm w _
 have im:=hx.below de;obtain⟨el,now,I,jm,gq⟩:=im.ex;obtain⟨ka,kc,cm⟩:=I.kn;obtain⟨ea,en,ec,ef,jw,j7,jf⟩:=I.en;have c4:=cm.c;have c7:=j7.c2;have j0:=I.pb;have j3:fb≠P:=by have:=hx.ex;obtain⟨_,_,bf,_⟩:=this;have:=bf.pl;omega
 obtain⟨n,hn⟩:∃n,n=rs.length:=⟨_,rfl⟩;have ep:n=e.runs.length:=by rw[hn];exact hx.len
 rw[<-hn] at c4;have h6:n<=6:=by rw[ep];exact ok.wk.WL
 have fy:B<=fb:=by have:=hx.ex;obtain⟨_,_,bf,_⟩:=this;have:=bf.pb;omega
 have HK:=Zz (hk.2 w0 de);have du:=hk.1 w0;have z:=Zz (Zq im (Zq (j6.below de) (Zq fv (Zq j3 (Zq fy gq)))));have ax:=Zz (Zq gu (Zq ft de));have HL:=Zz G;have HQ:=Zz hq;clear hq;have iw:=Zz gq;have iu:=Zz (EM w0 P el.length c7);have da:=Zz j0;have HT:=Zz ht;have HE:=Zz ep;clear hx hk j6 im I jm gq cm j7 jf gu ft de fv j3 fy G c7 j0 ht hn;by_cases gv:n=6
 .subst gv
  cases ho:Zdb e.runs e.runs.length with
  | none =>
   have gb:=Yi iw.o ho;have hr:=Pc (F:=F) HE.o.symm ho;have cr:Hid (Calls prog 195 #[.pointer (some ⟨P,5,none⟩)] w0 fun x w'=>x=.returned (.bool true)/\w'=w0):=Zz (by have:=iu.o;rw[gb] at this;exact this);have HR:=Zz hr;clear hr gb ho du ep
   go_enter func127,ntmps127
   go_upto_region 1 with fail
   rw[<-ax.o.1,<-ax.o.2.1];go_wp2_with (go_at_call 195;refine cr.o.mono ?_;rintro _ w1 ⟨rfl,gz⟩;rw[gz])
   go_ret2
   exact Zu ⟨HR.o,by rw[Zan (by decide)];rfl,ax.o.2.2⟩
  | some o =>
   obtain⟨W,fw,_⟩:=iw.o.first ok.wk ho;have cr:Hid (Calls prog 195 #[.pointer (some ⟨P,5,none⟩)] w0 fun x w'=>x=.returned (.bool false)/\w'=w0):=Zz (by have:=iu.o;rw[fw] at this;exact this);have HR:=Zz (Pb (F:=F) HE.o.symm ho);have HO:=Zz ho;clear fw ho ep
   go_enter func127,ntmps127
   go_upto_region 1 with fail
   rw[<-ax.o.1,<-ax.o.2.1]
   go_upto_region 5 with (first
    | (go_at_call 195;refine cr.o.mono ?_;rintro _ w1 ⟨rfl,gz⟩;rw[gz])
    | (refine HK.o.mono ?_;rintro _ w1 ⟨v,rfl,hn,ee⟩;have HN:=Zz (Zq hn ee);clear hn ee))
   have S:=z.o.1.side HN.o.1;by_cases hv:v=0
   .subst hv
    rw[Zaw];have jb:=Zz (Ow w1 P B ob e rs l o S ok.wk HT.o HO.o);have ay:=Zz S;clear S du c4
    go_upto_region 9 with (go_at_call 196;refine jb.o.mono ?_;rintro _ w4 ⟨rfl,j8⟩;have iy:=Zz j8;clear j8)
    obtain⟨f,dw⟩:∃f,f=e.cut o:=⟨_,rfl⟩;obtain⟨g,ag⟩:∃g,g=CG rs o:=⟨_,rfl⟩
    have m:=Zz (show Sub4 qh w1 w4 P B ob e f g l F a c fb Na Nc by
     obtain⟨q1,q2,q3⟩:=iy.o;obtain⟨o1,o2,_⟩:=DM HO.o;have jl:(e.at_ o).st≠1:=fun x=>by have:=((ok.wk.runs o o1).goes).1 x;have o2:0<(e.at_ o).ended:=o2;omega
     have fs:=Zer e o1;have fq:=(HN.o.1.block fb _ _ _ z.o.2.2.2.2.1 z.o.2.2.1 (by unfold Rb;simp)).trans z.o.2.2.1;rw[dw,ag];exact⟨q1,ok.cut o1 jl,q2,by have:=HE.o;omega,q3,(z.o.2.1.side HN.o.1).kf q3 da.o.1,(GS q3 fq z.o.2.2.2.1).trans fq,HR.o,rfl⟩)
    clear dw ag;obtain⟨lr,G⟩:∃lr,lr=f.Ah:=⟨_,rfl⟩;have jh:0<=lr:=by rw[G];exact m.o.ok.wk.lr0
    have jj:lr<18446744073709551615:=by rw[G,m.o.lr];exact HL.o
    obtain⟨d0,dz⟩:w4.cell? ⟨P,728,none⟩=some (.int .u64 lr)/\w4.frozen? ⟨P,728,none⟩=false:=by
     obtain⟨_,_,I,_,_⟩:=m.o.x.ex;rw[G];exact⟨I.lr,I.fz 728⟩
    have ew:IntKind.u64.wrap (lr+1)=lr+1:=by rw[IntKind.wrap_u64];omega
    have K:=Zz G;clear G
    go_upto_region 10 with fail
    obtain⟨id,bo⟩:∃id,id=lr+1:=⟨_,rfl⟩;rw[<-bo];obtain⟨u,br⟩:∃u,u=w4.setCell ⟨P,728,none⟩ (.int .u64 id):=⟨_,rfl⟩;rw[<-br]
    have J:=Zz (show Ch qh u P B ob { f with Ah:=id } g l/\An B u F (.slice a F.n c) F.n Na Nc/\u.heap[fb]? =some (.cells #[.int .i64 F.dl,.slice a F.n c] 61 (0,0))/\KF w1 u P B ob by
     obtain⟨W,R,bf,m2,m3⟩:=m.o.x.ex;have U:=bf.num 728 id id f.Ai f.Ar (Zu ⟨rfl,rfl,rfl,rfl⟩);have C:=KF.Bv w4 P B 728 ob (.int .u64 id) (by omega);rw[<-br] at U C;exact⟨⟨⟨W,R,U,m2,m3.same rfl (fun _ _=>⟨rfl,rfl⟩)⟩,m.o.x.len,m.o.x.runs⟩,m.o.cp.kf C da.o.1,(GS C m.o.fb z.o.2.2.2.1).trans m.o.fb,m.o.kf.trans C (As.refl _ _)⟩)
    have H:=Zz bo;clear d0 dz ew br bo;have al:u.cell? ⟨P,728,none⟩=some (.int .u64 id):=by obtain⟨_,_,I,_,_⟩:=J.o.1.ex;exact I.lr
    have f0:u.cell? ⟨fb,0,none⟩=some (.int .i64 F.dl):=by unfold QEk;rw[J.o.2.2.1];rfl
    have f1:u.cell? ⟨fb,1,none⟩=some (.slice a F.n c):=by unfold QEk;rw[J.o.2.2.1];rfl
    have cz:=Zz (fun (wx:World) (hb:ZY u wx)=>Kh wx B id F a c Na Nc (J.o.2.1.below hb) hF.top.n1 hF.top.n2 (by obtain⟨_,_,I,_,_⟩:=J.o.1.ex;exact Zv I.pb.2 hb.size) HQ.o)
    go_region_held3 (fun w'=>(w'.cell? ⟨P,728,none⟩=some (.int .u64 id)/\w'.cell? ⟨fb,0,none⟩=some (.int .i64 F.dl))/\w'.cell? ⟨fb,1,none⟩=some (.slice a F.n c)) (go_keep) ((go_at_call 197;refine (cz.o u.drew (ZV.drew)).mono ?_;rintro _ E ⟨r,rfl,r1,r2,r3,r4,r5,r6,r7⟩;have T:=Zz (Zq r1 (Zq r2 (Zq r3 (Zq r4 (Zq r5 (Zq r6 r7))))));have y0:=QFa r7 al;have y1:=QFa r7 f0;have y2:=QFa r7 f1;clear r1 r2 r3 r4 r5 r6 r7))
    go_upto_region 11 with fail
    obtain⟨bw,ck,j⟩:∃ka kc,Cd qh E P B ka kc g:=by
     obtain⟨_,_,I,_,_⟩:=(J.o.1.below (((Zk u.heap.size u).drew).trans' T.o.2.2.2.2.2.2)).ex;exact I.kn
    obtain⟨V,O⟩:∃V,V=g.length:=⟨_,rfl⟩;obtain⟨rb,bp⟩:∃rb,rb=r.b:=⟨_,rfl⟩;have ei:V<6:=by rw[O,m.o.x.len];exact m.o.Br
    have m1:=j.c;rw[<-O] at m1;have m2:=j.fz 4;have gm:P<E.heap.size:=Zy j.pb j.bs;have dp:=j.bs;have HO:=Zz (show E.ownsRow B 266 1 (.slice bw V ck) V (g.flatMap Ln) by rw[O];exact j.row);have bh:some P≠(QFv bw V ck).ownBlock:=fun e=>by have:=(HO.o.lt P e.symm).1;have:=j.pb;omega
    have ar:=Zz (Zq j (Zq O bp));obtain⟨ir,hi,fh,fi,fj⟩:=info_parts Vm;have HI:=Zz (Zq hi (Zq fh (Zq fi fj)));have iq:=QFa (((Zk E.heap.size E).alloc ZU (.cells #[.pointer (some ⟨rb,0,none⟩)] 266)).drew) m1;have fm:=QFa ((Zk E.heap.size E).alloc ZU (.cells #[.pointer (some ⟨rb,0,none⟩)] 266)) m1;rw[<-bp];clear j O bp hi fh fi fj y0 y1 y2 al f0 f1
    go_upto_region 12 with (at_builtin;refine QJt _ rfl (.tmp 50) (.tmp 52) 149 rfl B 266 ir _ 1 8 underlying149 HI.o.1 HI.o.2.1 HI.o.2.2.1 HI.o.2.2.2 rfl (by omega) (.slice bw V ck) V (g.flatMap Ln) rfl (HO.o.alloc _) ⟨E.heap.size,0,none⟩ 1 1 [.pointer (some ⟨rb,0,none⟩)] rfl rfl (QJh (cs:=#[.pointer (some ⟨rb,0,none⟩)]) (t:=266) (fr:=(0,0)) (QFm E _)) (by simp[QFu]) (by omega) (by unfold maxLen;omega) (by omega) (by simp;omega) (E.heap.size+1) (by simp) ?_;intro gg X w7 Q s gp gy;have s1:=(s.cell_far ⟨P,4,none⟩ (by simp;omega) bh).trans fm;have sz:=(s.frozen_far ⟨P,4,none⟩ (by simp;omega) bh).trans ((((Zk E.heap.size E).alloc ZU (.cells #[.pointer (some ⟨rb,0,none⟩)] 266)).frozen (p:=⟨P,4,none⟩) (by simp only[];omega)).trans m2))
    have cy:=Zz (Zq Q s);obtain⟨A,D⟩:∃A,A=w7.setCell ⟨P,4,none⟩ (.slice (some ⟨gg,0,none⟩) (V+1) X):=⟨_,rfl⟩;rw[<-D]
    have H8:=Zz (show Ch qh A P B ob (f.more F) (g++[r]) l/\KF w1 A P B ob/\A.heap[fb]? =some (.cells #[.int .i64 F.dl,.slice a F.n c] 61 (0,0))/\AR qh A B r/\Am (g++[r]) f.runs.length=r by
     obtain⟨r1,r2,r3,r4,r5,r6,r7⟩:=T.o;obtain⟨k1,k2,k3⟩:=ar.o;obtain⟨g1,g2⟩:=cy.o;have dd:ZY u E:=((Zk u.heap.size u).drew).trans' r7;have L:ZY E (E.alloc (.cells #[.pointer (some ⟨rb,0,none⟩)] 266)):=ZV.alloc ZU _;obtain⟨W,R,gi,m2,m3⟩:=(J.o.1.below dd).ex;obtain⟨_,_,U,_,_⟩:=J.o.1.ex;obtain⟨jq,js,Z⟩:=U.kn;have hlen:=m.o.x.len
     have fe:BA w7 B 266 1 Ln (some ⟨gg,0,none⟩) X (g++[r]):=by
      unfold BA;rw[ZX,QGq,<-k2,QHe,QJu];have:Ln r=[.pointer (some ⟨rb,0,none⟩)]:=by rw[k3];rfl
      rw[this];exact g1
     rw[k2] at g2 D;have j9:u.heap.size<=u.drew.heap.size:=Zx _;obtain⟨s1,s2,s3,s4⟩:=(k1.below L).snoc (r:=r) (by rw[<-k2];exact ei) (r6.below L) (fun i hi e=>by have:=(Z.runs i hi).lt;omega) (fun i hi e=>by obtain⟨_,_,_,_,_,q⟩:=(Z.runs i hi).Bj;omega) g2 fe;rw[<-D] at s1 s2;have M:=(gi.below L).JY s2 s3 ⟨_,_,s1⟩;have ae:=s1.runs g.length (by rw[ZX,QGq];omega);have ez:Am (g++[r]) f.runs.length=r:=by rw[Zcp (by omega),if_neg (by omega)]
     have C:KF u A P B ob:=((KF.Ae P B ob dd).trans (KF.Ae P B ob L) (As.refl _ _)).trans (KF.JY (by rw[D];exact g2.os) (by rw[D];exact g2.tape) (by rw[D];exact g2.output) s2 (fun k hk=>⟨by
      rcases (k1.below L).row.2 with⟨h2,_⟩ | ⟨g',cap,cur,h2,hg,hh,_⟩
      .rw[h2] at hk;simp[QCi] at hk
      .rw[h2] at hk
       simp only[QCi,QCf] at hk;subst hk;exact hg,s3 k hk⟩) ob) (As.refl _ _)
     have eg:(f.more F).Ah=id:=by show f.Ah+1=id;rw[H.o,K.o]
     refine⟨⟨⟨W,R,by rw[eg];exact M,m2,(m3.same (e':=f) rfl (fun _ _=>⟨rfl,rfl⟩)).more⟩,by rw[ZX,QGq,Za5,hlen],fun i hi=> ?_⟩,J.o.2.2.2.trans C (As.refl _ _),(GS C J.o.2.2.1 z.o.2.2.2.1).trans J.o.2.2.1,?_,ez⟩
     .rw[Za5] at hi
      rw[Zcp (by omega)]
      split
      .rename_i hc;rw[Zb4 f F (by omega)];exact m.o.x.runs i (by omega)
      .rename_i hc
       have gw:i=f.runs.length:=by omega
       subst gw;rw[Zbl];exact Bu.fresh (by rw[r1,H.o,K.o]) r2 r3
     .rw[hlen,ez] at ae;exact ae)
    have aw:=Zz (show r.b=rb from ar.o.2.2.symm);have gh:=Zz T.o.1;clear D cy T ar s Q gp gy s1 sz m1 m2 iq fm bh HO gm dp HI cz;obtain⟨je,d,M,aj,dy⟩:=H8.o.1.ex
    have Y:∀wx,ZY A wx->Calls prog 198 #[.pointer (some ⟨P,4,none⟩),.agg #[.int .u64 id,.int .i64 (-1),.int .i64 0],.int .i64 F.dl] wx fun x w'=>x=.returned (.tuple #[])/\∃y l1,BZ l (Bc id (-1) 0) y l1/\Bh w' P B Ck d (l1++[⟨Bc id (-1) 0,Za2 d (d+F.dl),f.timers+1⟩])/\PF wx w' P B Ck:=fun wx hb=>by
     have:=hF.top.Yg;have:=hF.top.dl2;have:=H.o;exact ES wx P B d l (Bc id (-1) 0) id (-1) 0 F.dl f.timers (M.wh.Ak hb) (FM (by omega) (by omega) (by omega) (by omega) (by omega) (by omega)) (by omega) (by omega) (by have:=m.o.TL.Br m.o.ok.wk;omega)
    have dc:=Zz Y
    have N:∀wx w',ZY A wx->PF wx w' P B Ck->w'.cell? ⟨rb,0,none⟩=some (.int .u64 id)/\w'.cell? ⟨fb,0,none⟩=some (.int .i64 F.dl):=fun wx w' hb hf=>by
     obtain⟨x1,x2,x3,x4,x5⟩:=H8.o
     have stay:∀k cs t fr,A.heap[k]? =some (.cells cs t fr)->t≠288->k≠P->w'.heap[k]? =A.heap[k]? :=fun k cs t fr e ht hk=>by
      have e1:=hb.block k (Zaa e);exact (hf.other (e1.trans e) ht hk).trans e1
     have t0:=x4.CP.1.1;have h1:=stay r.b _ _ _ x4.top (by decide) (by have:=x4.bb;have:=da.o.1;omega);have h2:=stay fb _ _ _ x3 (by decide) z.o.2.2.2.1;rw[aw.o] at t0 h1;rw[gh.o] at t0;exact⟨(QEc (a:=⟨rb,0,none⟩) h1).trans t0,by unfold QEk;rw[h2,x3];rfl⟩
    have cu:=Zz N;obtain⟨u0,u1⟩:=N A A ZV (PF.refl _ _ _ _);have au:=Zz (Zq M aj);clear Y N M aj dy
    go_region_held3 (fun w'=>w'.cell? ⟨rb,0,none⟩=some (.int .u64 id)/\w'.cell? ⟨fb,0,none⟩=some (.int .i64 F.dl)) (go_keep) ((go_at_call 198;refine (dc.o A.drew (ZV.drew)).mono ?_;rintro _ w9 ⟨rfl,y,l1,dr,fg,bj⟩;have gd:=Zz (Zq dr (Zq fg bj));have y:=cu.o A.drew w9 (ZV.drew) bj;have y0:=y.1;have y1:=y.2;clear dr fg bj y))
    go_upto_region 13 with fail
    have H9:=Zz (show Ch qh w9 P B ob (f.more F) (g++[r]) (l1++[⟨Bc id (-1) 0,Za2 d (d+F.dl),f.timers+1⟩])/\Bf (f.more F) (l1++[⟨Bc id (-1) 0,Za2 d (d+F.dl),f.timers+1⟩])/\KF w1 w9 P B ob/\Ao (f.more F) by
     obtain⟨q1,q2,q3⟩:=gd.o;obtain⟨x1,x2,x3,x4,x5⟩:=H8.o;have dj:ZY A A.drew:=ZV.drew;have hi:id=f.Ah+1:=by rw[H.o,K.o]
     have fs:Za2 d (d+F.dl)=Zao f.time F.dl:=by
      have:f.time=(d:Int):=au.o.2;rw[this];exact Zc6 hF.top.Yg
     refine⟨(x1.below dj).KU q3 q2 au.o.2,?_,(x2.trans (KF.Ae P B ob dj) (As.refl _ _)).trans (KF.DL q3 ob) (As.refl _ _),m.o.ok.wk.more m.o.Br hF⟩;rw[fs,hi];rw[hi] at q1;exact Ph m.o.ok.wk hF.top.Yg m.o.TL au.o.1.wh.apart q1)
    have az:=Mw (i:=f.runs.length) H9.o.1 H9.o.2.2.2 (by rw[Za5];omega) (by rw[Zbl];rfl) H9.o.2.1;rw[H8.o.2.2.2.2,aw.o] at az;have cq:=Zz az;clear az u0 u1 y0 y1
    go_upto_region 14 with (first
     | (go_at_call 154;refine cq.o.mono ?_;rintro _ ju ⟨aa,nn,cc,rfl,dh,ey⟩;have db:=Zz ey;clear dh ey)
     | (go_at_call 153;refine db.o.mono ?_;rintro _ KT ⟨rfl,jt,z1,z2,z3,z4,z5,z6⟩;have HZ:=Zz (Zq z1 (Zq z2 (Zq z3 (Zq z4 (Zq z5 z6)))));clear z1 z2 z3 z4 z5 z6))
    have t0:KT.cell? ⟨rb,0,none⟩=some (.int .u64 id):=by
     obtain⟨z1,z2,z3,z4,z5,z6⟩:=HZ.o;obtain⟨_,_,I,_,_⟩:=z1.ex;obtain⟨jo,jr,cm⟩:=I.kn;have gx:f.runs.length<(f.more F).runs.length:=by rw[Za5];omega
     have jk:(g++[r]).length=(f.more F).runs.length:=H9.o.1.len;have hb:=z2.2 f.runs.length (by omega);rw[H8.o.2.2.2.2,aw.o] at hb;have:=(cm.runs f.runs.length (by have:=z2.1;omega)).CP.1.1;rw[hb,(z1.runs f.runs.length (by rw[z5.len];exact gx)).id,z5.id,Zbl] at this;rw[this,H.o,K.o]
     rfl
    clear cq db;go_wp2_with fail
    go_ret2
    obtain⟨z1,z2,z3,z4,z5,z6⟩:=HZ.o;refine Zj ⟨0,_,m.o.is,?_,?_⟩
    .rw[if_pos rfl,H.o,K.o,m.o.lr];rfl
    .rw[Du]
     exact BX.ok HN.o.2 z1 z3 (H9.o.2.2.1.trans z6 (As.refl _ _)) (As.refl _ _)
   .rw[Zan hv]
    have HV:=Zz hv;have ay:=Zz S;clear hv S du c4;go_wp2_with fail
    go_ret2
    exact Zj ⟨v,_,HR.o,by rw[Zan HV.o,if_neg HV.o];rfl,BX.err HV.o HN.o.2 ay.o HT.o⟩
 .have g6:¬(6:Int)<=(n:Int):=by omega
  have h5:e.runs.length<6:=by omega
  have HR:=Zz (Pd (F:=F) h5);have J:=Zz h5;clear ep h5
  go_enter func127,ntmps127
  go_upto_region 1 with fail
  rw[<-ax.o.1,<-ax.o.2.1]
  go_upto_region 5 with (refine HK.o.mono ?_;rintro _ w1 ⟨v,rfl,hn,ee⟩;have HN:=Zz (Zq hn ee);clear hn ee)
  have S:=z.o.1.side HN.o.1;by_cases hv:v=0
  .subst hv
   rw[Zaw];have ay:=Zz S;clear S du c4
   go_upto_region 9 with fail
   obtain⟨w4,ie⟩:∃w4,w4=w1:=⟨_,rfl⟩;obtain⟨f,dw⟩:∃f,f=e:=⟨_,rfl⟩;obtain⟨g,ag⟩:∃g,g=rs:=⟨_,rfl⟩
   have m:=Zz (show Sub4 qh w1 w4 P B ob e f g l F a c fb Na Nc by
    have fq:=(HN.o.1.block fb _ _ _ z.o.2.2.2.2.1 z.o.2.2.1 (by unfold Rb;simp)).trans z.o.2.2.1;rw[dw,ag,ie];exact⟨ay.o,ok,HT.o,J.o,KF.refl _ _ _ _,z.o.2.1.side HN.o.1,fq,HR.o,rfl⟩)
   clear dw ag;have jd:=Zz HN.o.2;rw[<-ie];have iz:=HN;clear ay HN;have HN:Hid (NF w0 w1 P B/\Kp 0 w1):=iz;clear iz jd ie;obtain⟨lr,G⟩:∃lr,lr=f.Ah:=⟨_,rfl⟩;have jh:0<=lr:=by rw[G];exact m.o.ok.wk.lr0
   have jj:lr<18446744073709551615:=by rw[G,m.o.lr];exact HL.o
   obtain⟨d0,dz⟩:w4.cell? ⟨P,728,none⟩=some (.int .u64 lr)/\w4.frozen? ⟨P,728,none⟩=false:=by
    obtain⟨_,_,I,_,_⟩:=m.o.x.ex;rw[G];exact⟨I.lr,I.fz 728⟩
   have ew:IntKind.u64.wrap (lr+1)=lr+1:=by rw[IntKind.wrap_u64];omega
   have K:=Zz G;clear G
   go_upto_region 10 with fail
   obtain⟨id,bo⟩:∃id,id=lr+1:=⟨_,rfl⟩;rw[<-bo];obtain⟨u,br⟩:∃u,u=w4.setCell ⟨P,728,none⟩ (.int .u64 id):=⟨_,rfl⟩;rw[<-br]
   have J:=Zz (show Ch qh u P B ob { f with Ah:=id } g l/\An B u F (.slice a F.n c) F.n Na Nc/\u.heap[fb]? =some (.cells #[.int .i64 F.dl,.slice a F.n c] 61 (0,0))/\KF w1 u P B ob by
    obtain⟨W,R,bf,m2,m3⟩:=m.o.x.ex;have U:=bf.num 728 id id f.Ai f.Ar (Zu ⟨rfl,rfl,rfl,rfl⟩);have C:=KF.Bv w4 P B 728 ob (.int .u64 id) (by omega);rw[<-br] at U C;exact⟨⟨⟨W,R,U,m2,m3.same rfl (fun _ _=>⟨rfl,rfl⟩)⟩,m.o.x.len,m.o.x.runs⟩,m.o.cp.kf C da.o.1,(GS C m.o.fb z.o.2.2.2.1).trans m.o.fb,m.o.kf.trans C (As.refl _ _)⟩)
   have H:=Zz bo;clear d0 dz ew br bo;have al:u.cell? ⟨P,728,none⟩=some (.int .u64 id):=by obtain⟨_,_,I,_,_⟩:=J.o.1.ex;exact I.lr
   have f0:u.cell? ⟨fb,0,none⟩=some (.int .i64 F.dl):=by unfold QEk;rw[J.o.2.2.1];rfl
   have f1:u.cell? ⟨fb,1,none⟩=some (.slice a F.n c):=by unfold QEk;rw[J.o.2.2.1];rfl
   have cz:=Zz (fun (wx:World) (hb:ZY u wx)=>Kh wx B id F a c Na Nc (J.o.2.1.below hb) hF.top.n1 hF.top.n2 (by obtain⟨_,_,I,_,_⟩:=J.o.1.ex;exact Zv I.pb.2 hb.size) HQ.o)
   go_region_held3 (fun w'=>(w'.cell? ⟨P,728,none⟩=some (.int .u64 id)/\w'.cell? ⟨fb,0,none⟩=some (.int .i64 F.dl))/\w'.cell? ⟨fb,1,none⟩=some (.slice a F.n c)) (go_keep) ((go_at_call 197;refine (cz.o u.drew (ZV.drew)).mono ?_;rintro _ E ⟨r,rfl,r1,r2,r3,r4,r5,r6,r7⟩;have T:=Zz (Zq r1 (Zq r2 (Zq r3 (Zq r4 (Zq r5 (Zq r6 r7))))));have y0:=QFa r7 al;have y1:=QFa r7 f0;have y2:=QFa r7 f1;clear r1 r2 r3 r4 r5 r6 r7))
   go_upto_region 11 with fail
   obtain⟨bw,ck,j⟩:∃ka kc,Cd qh E P B ka kc g:=by
    obtain⟨_,_,I,_,_⟩:=(J.o.1.below (((Zk u.heap.size u).drew).trans' T.o.2.2.2.2.2.2)).ex;exact I.kn
   obtain⟨V,O⟩:∃V,V=g.length:=⟨_,rfl⟩;obtain⟨rb,bp⟩:∃rb,rb=r.b:=⟨_,rfl⟩;have ei:V<6:=by rw[O,m.o.x.len];exact m.o.Br
   have m1:=j.c;rw[<-O] at m1;have m2:=j.fz 4;have gm:P<E.heap.size:=Zy j.pb j.bs;have dp:=j.bs;have HO:=Zz (show E.ownsRow B 266 1 (.slice bw V ck) V (g.flatMap Ln) by rw[O];exact j.row);have bh:some P≠(QFv bw V ck).ownBlock:=fun e=>by have:=(HO.o.lt P e.symm).1;have:=j.pb;omega
   have ar:=Zz (Zq j (Zq O bp));obtain⟨ir,hi,fh,fi,fj⟩:=info_parts Vm;have HI:=Zz (Zq hi (Zq fh (Zq fi fj)));have iq:=QFa (((Zk E.heap.size E).alloc ZU (.cells #[.pointer (some ⟨rb,0,none⟩)] 266)).drew) m1;have fm:=QFa ((Zk E.heap.size E).alloc ZU (.cells #[.pointer (some ⟨rb,0,none⟩)] 266)) m1;rw[<-bp];clear j O bp hi fh fi fj y0 y1 y2 al f0 f1
   go_upto_region 12 with (at_builtin;refine QJt _ rfl (.tmp 50) (.tmp 52) 149 rfl B 266 ir _ 1 8 underlying149 HI.o.1 HI.o.2.1 HI.o.2.2.1 HI.o.2.2.2 rfl (by omega) (.slice bw V ck) V (g.flatMap Ln) rfl (HO.o.alloc _) ⟨E.heap.size,0,none⟩ 1 1 [.pointer (some ⟨rb,0,none⟩)] rfl rfl (QJh (cs:=#[.pointer (some ⟨rb,0,none⟩)]) (t:=266) (fr:=(0,0)) (QFm E _)) (by simp[QFu]) (by omega) (by unfold maxLen;omega) (by omega) (by simp;omega) (E.heap.size+1) (by simp) ?_;intro gg X w7 Q s gp gy;have s1:=(s.cell_far ⟨P,4,none⟩ (by simp;omega) bh).trans fm;have sz:=(s.frozen_far ⟨P,4,none⟩ (by simp;omega) bh).trans ((((Zk E.heap.size E).alloc ZU (.cells #[.pointer (some ⟨rb,0,none⟩)] 266)).frozen (p:=⟨P,4,none⟩) (by simp only[];omega)).trans m2))
   have cy:=Zz (Zq Q s);obtain⟨A,D⟩:∃A,A=w7.setCell ⟨P,4,none⟩ (.slice (some ⟨gg,0,none⟩) (V+1) X):=⟨_,rfl⟩;rw[<-D]
   have H8:=Zz (show Ch qh A P B ob (f.more F) (g++[r]) l/\KF w1 A P B ob/\A.heap[fb]? =some (.cells #[.int .i64 F.dl,.slice a F.n c] 61 (0,0))/\AR qh A B r/\Am (g++[r]) f.runs.length=r by
    obtain⟨r1,r2,r3,r4,r5,r6,r7⟩:=T.o;obtain⟨k1,k2,k3⟩:=ar.o;obtain⟨g1,g2⟩:=cy.o;have dd:ZY u E:=((Zk u.heap.size u).drew).trans' r7;have L:ZY E (E.alloc (.cells #[.pointer (some ⟨rb,0,none⟩)] 266)):=ZV.alloc ZU _;obtain⟨W,R,gi,m2,m3⟩:=(J.o.1.below dd).ex;obtain⟨_,_,U,_,_⟩:=J.o.1.ex;obtain⟨jq,js,Z⟩:=U.kn;have hlen:=m.o.x.len
    have fe:BA w7 B 266 1 Ln (some ⟨gg,0,none⟩) X (g++[r]):=by
     unfold BA;rw[ZX,QGq,<-k2,QHe,QJu];have:Ln r=[.pointer (some ⟨rb,0,none⟩)]:=by rw[k3];rfl
     rw[this];exact g1
    rw[k2] at g2 D;have j9:u.heap.size<=u.drew.heap.size:=Zx _;obtain⟨s1,s2,s3,s4⟩:=(k1.below L).snoc (r:=r) (by rw[<-k2];exact ei) (r6.below L) (fun i hi e=>by have:=(Z.runs i hi).lt;omega) (fun i hi e=>by obtain⟨_,_,_,_,_,q⟩:=(Z.runs i hi).Bj;omega) g2 fe;rw[<-D] at s1 s2;have M:=(gi.below L).JY s2 s3 ⟨_,_,s1⟩;have ae:=s1.runs g.length (by rw[ZX,QGq];omega);have ez:Am (g++[r]) f.runs.length=r:=by rw[Zcp (by omega),if_neg (by omega)]
    have C:KF u A P B ob:=((KF.Ae P B ob dd).trans (KF.Ae P B ob L) (As.refl _ _)).trans (KF.JY (by rw[D];exact g2.os) (by rw[D];exact g2.tape) (by rw[D];exact g2.output) s2 (fun k hk=>⟨by
     rcases (k1.below L).row.2 with⟨h2,_⟩ | ⟨g',cap,cur,h2,hg,hh,_⟩
     .rw[h2] at hk;simp[QCi] at hk
     .rw[h2] at hk
      simp only[QCi,QCf] at hk;subst hk;exact hg,s3 k hk⟩) ob) (As.refl _ _)
    have eg:(f.more F).Ah=id:=by show f.Ah+1=id;rw[H.o,K.o]
    refine⟨⟨⟨W,R,by rw[eg];exact M,m2,(m3.same (e':=f) rfl (fun _ _=>⟨rfl,rfl⟩)).more⟩,by rw[ZX,QGq,Za5,hlen],fun i hi=> ?_⟩,J.o.2.2.2.trans C (As.refl _ _),(GS C J.o.2.2.1 z.o.2.2.2.1).trans J.o.2.2.1,?_,ez⟩
    .rw[Za5] at hi
     rw[Zcp (by omega)]
     split
     .rename_i hc;rw[Zb4 f F (by omega)];exact m.o.x.runs i (by omega)
     .rename_i hc
      have gw:i=f.runs.length:=by omega
      subst gw;rw[Zbl];exact Bu.fresh (by rw[r1,H.o,K.o]) r2 r3
    .rw[hlen,ez] at ae;exact ae)
   have aw:=Zz (show r.b=rb from ar.o.2.2.symm);have gh:=Zz T.o.1;clear D cy T ar s Q gp gy s1 sz m1 m2 iq fm bh HO gm dp HI cz;obtain⟨je,d,M,aj,dy⟩:=H8.o.1.ex
   have Y:∀wx,ZY A wx->Calls prog 198 #[.pointer (some ⟨P,4,none⟩),.agg #[.int .u64 id,.int .i64 (-1),.int .i64 0],.int .i64 F.dl] wx fun x w'=>x=.returned (.tuple #[])/\∃y l1,BZ l (Bc id (-1) 0) y l1/\Bh w' P B Ck d (l1++[⟨Bc id (-1) 0,Za2 d (d+F.dl),f.timers+1⟩])/\PF wx w' P B Ck:=fun wx hb=>by
    have:=hF.top.Yg;have:=hF.top.dl2;have:=H.o;exact ES wx P B d l (Bc id (-1) 0) id (-1) 0 F.dl f.timers (M.wh.Ak hb) (FM (by omega) (by omega) (by omega) (by omega) (by omega) (by omega)) (by omega) (by omega) (by have:=m.o.TL.Br m.o.ok.wk;omega)
   have dc:=Zz Y
   have N:∀wx w',ZY A wx->PF wx w' P B Ck->w'.cell? ⟨rb,0,none⟩=some (.int .u64 id)/\w'.cell? ⟨fb,0,none⟩=some (.int .i64 F.dl):=fun wx w' hb hf=>by
    obtain⟨x1,x2,x3,x4,x5⟩:=H8.o
    have stay:∀k cs t fr,A.heap[k]? =some (.cells cs t fr)->t≠288->k≠P->w'.heap[k]? =A.heap[k]? :=fun k cs t fr e ht hk=>by
     have e1:=hb.block k (Zaa e);exact (hf.other (e1.trans e) ht hk).trans e1
    have t0:=x4.CP.1.1;have h1:=stay r.b _ _ _ x4.top (by decide) (by have:=x4.bb;have:=da.o.1;omega);have h2:=stay fb _ _ _ x3 (by decide) z.o.2.2.2.1;rw[aw.o] at t0 h1;rw[gh.o] at t0;exact⟨(QEc (a:=⟨rb,0,none⟩) h1).trans t0,by unfold QEk;rw[h2,x3];rfl⟩
   have cu:=Zz N;obtain⟨u0,u1⟩:=N A A ZV (PF.refl _ _ _ _);have au:=Zz (Zq M aj);clear Y N M aj dy
   go_region_held3 (fun w'=>w'.cell? ⟨rb,0,none⟩=some (.int .u64 id)/\w'.cell? ⟨fb,0,none⟩=some (.int .i64 F.dl)) (go_keep) ((go_at_call 198;refine (dc.o A.drew (ZV.drew)).mono ?_;rintro _ w9 ⟨rfl,y,l1,dr,fg,bj⟩;have gd:=Zz (Zq dr (Zq fg bj));have y:=cu.o A.drew w9 (ZV.drew) bj;have y0:=y.1;have y1:=y.2;clear dr fg bj y))
   go_upto_region 13 with fail
   have H9:=Zz (show Ch qh w9 P B ob (f.more F) (g++[r]) (l1++[⟨Bc id (-1) 0,Za2 d (d+F.dl),f.timers+1⟩])/\Bf (f.more F) (l1++[⟨Bc id (-1) 0,Za2 d (d+F.dl),f.timers+1⟩])/\KF w1 w9 P B ob/\Ao (f.more F) by
    obtain⟨q1,q2,q3⟩:=gd.o;obtain⟨x1,x2,x3,x4,x5⟩:=H8.o;have dj:ZY A A.drew:=ZV.drew;have hi:id=f.Ah+1:=by rw[H.o,K.o]
    have fs:Za2 d (d+F.dl)=Zao f.time F.dl:=by
     have:f.time=(d:Int):=au.o.2;rw[this];exact Zc6 hF.top.Yg
    refine⟨(x1.below dj).KU q3 q2 au.o.2,?_,(x2.trans (KF.Ae P B ob dj) (As.refl _ _)).trans (KF.DL q3 ob) (As.refl _ _),m.o.ok.wk.more m.o.Br hF⟩;rw[fs,hi];rw[hi] at q1;exact Ph m.o.ok.wk hF.top.Yg m.o.TL au.o.1.wh.apart q1)
   have az:=Mw (i:=f.runs.length) H9.o.1 H9.o.2.2.2 (by rw[Za5];omega) (by rw[Zbl];rfl) H9.o.2.1;rw[H8.o.2.2.2.2,aw.o] at az;have cq:=Zz az;clear az u0 u1 y0 y1
   go_upto_region 14 with (first
    | (go_at_call 154;refine cq.o.mono ?_;rintro _ ju ⟨aa,nn,cc,rfl,dh,ey⟩;have db:=Zz ey;clear dh ey)
    | (go_at_call 153;refine db.o.mono ?_;rintro _ KT ⟨rfl,jt,z1,z2,z3,z4,z5,z6⟩;have HZ:=Zz (Zq z1 (Zq z2 (Zq z3 (Zq z4 (Zq z5 z6)))));clear z1 z2 z3 z4 z5 z6))
   have t0:KT.cell? ⟨rb,0,none⟩=some (.int .u64 id):=by
    obtain⟨z1,z2,z3,z4,z5,z6⟩:=HZ.o;obtain⟨_,_,I,_,_⟩:=z1.ex;obtain⟨jo,jr,cm⟩:=I.kn;have gx:f.runs.length<(f.more F).runs.length:=by rw[Za5];omega
    have jk:(g++[r]).length=(f.more F).runs.length:=H9.o.1.len;have hb:=z2.2 f.runs.length (by omega);rw[H8.o.2.2.2.2,aw.o] at hb;have:=(cm.runs f.runs.length (by have:=z2.1;omega)).CP.1.1;rw[hb,(z1.runs f.runs.length (by rw[z5.len];exact gx)).id,z5.id,Zbl] at this;rw[this,H.o,K.o]
    rfl
   clear cq db;go_wp2_with fail
   go_ret2
   obtain⟨z1,z2,z3,z4,z5,z6⟩:=HZ.o;refine Zj ⟨0,_,m.o.is,?_,?_⟩
   .rw[if_pos rfl,H.o,K.o,m.o.lr];rfl
   .rw[Du]
    exact BX.ok HN.o.2 z1 z3 (H9.o.2.2.1.trans z6 (As.refl _ _)) (As.refl _ _)
  .rw[Zan hv]
   have HV:=Zz hv;have ay:=Zz S;clear hv S du c4;go_wp2_with fail
   go_ret2
   exact Zj ⟨v,_,HR.o,by rw[Zan HV.o,if_neg HV.o];rfl,BX.err HV.o HN.o.2 ay.o HT.o⟩
