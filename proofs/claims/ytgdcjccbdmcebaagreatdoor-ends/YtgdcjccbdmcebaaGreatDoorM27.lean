import Derived.Test.YtgdcjccbdmcebaaGreatDoorM08
import Derived.Test.YtgdcjccbdmcebaaGreatDoorM22
import Derived.Test.YtgdcjccbdmcebaaGreatDoorM26
set_option linter.unusedSimpArgs false
set_option linter.unusedVariables false
set_option maxHeartbeats 4000000
set_option maxRecDepth 100000
namespace Go.Proofs.YtgdcjccbdmcebaaGreatDoor
open Tryz
open Go.RowKit
attribute [local go_sem ↓] Go.wp_at_zero Go.wp_at_succ
inductive FK (l:List Tm):List Int->List Tm->Prop
 | nil:FK l [] l
 | snoc (ids:List Int) (l1 l2:List Tm) (id x:Int):FK l ids l1->Cb l1 id x l2->FK l (ids++[id]) l2
theorem FK.all {l a:List Tm}{ids:List Int}(h:FK l ids a)(c:Bj l):Bj a/\a.length<=l.length/\(Bn l->Bn a)/\∀t,t∈a↔t∈l/\t.id ∉ ids:=by
 induction h with
 | nil=>exact⟨c,Zx _,fun h=>h,fun t=>by simp⟩
 | snoc ids f g id x _ b e =>
  obtain⟨i1,i2,i3,i4⟩:=e;refine⟨b.apart i1,Zv b.len i2,fun d=>b.rising (i3 d),fun t=> ?_⟩;rw[b.gone i1,i4];simp only[List.mem_append,List.mem_singleton,not_or,and_assoc]
def Jk (r nd:Int)(qs:List Int):List Int:=qs.map (fun q=>Bb r nd q)
def Df (w:World)(vb:Nat)(qs:List Int):Prop:=∃cur,w.heap[vb]? =some (.cells cur 280 (0,0))/\∀i,i<qs.length->cur[i]? =some (.int .i64 (qs.getD i 0))
theorem Df.cell {w:World}{b:Nat}{a:List Int}(h:Df w b a){i:Nat}(hi:i<a.length):w.cell? ⟨b,i,none⟩=some (.int .i64 (a.getD i 0)):=by
 obtain⟨cur,c,d⟩:=h;unfold World.cell?;rw[c];exact d i hi
theorem Df.at_ {w w':World}{a:Nat}{b:List Int}(h:Df w a b)(e:w'.heap[a]? =w.heap[a]?):Df w' a b:=by
 obtain⟨cur,c,d⟩:=h;exact⟨cur,e.trans c,d⟩
def Bv (w:World)(sb:Nat)(r nd:Int):Prop:=w.heap[sb]? =some (.cells #[.int .u64 r, .int .i64 nd] 274 (0,0))
theorem Bv.cells {w:World}{sb:Nat}{r nd:Int}(h:Bv w sb r nd):w.cell? ⟨sb,0,none⟩=some (.int .u64 r)/\w.cell? ⟨sb,1,none⟩=some (.int .i64 nd):=by
 unfold World.cell?;rw[h];exact⟨rfl,rfl⟩
theorem PF.other {w w':World}{P B:Nat}{K:Nat->Prop}(h:PF w w' P B K){k:Nat}{cs:Array Value}{t:TypeId}{fr:Nat×Nat}(e:w.heap[k]? =some (.cells cs t fr))(b:t≠288)(a:k≠P):w'.heap[k]? =w.heap[k]? :=h.block k (Zaa e) a (Zj ⟨cs,t,fr,e,b⟩)
theorem Hl (w:World)(P B now s:Nat)(l:List Tm)(r nd:Int)(a:List Int)(h:Bf w P B Ck now l)(U:∀q,q∈a->BM r nd q (Bb r nd q))(M:Df w s a)(O:s≠P)(hn:a.length<=10) :
  Calls prog 152 #[.pointer (some ⟨P,4,none⟩), .agg #[.int .u64 r, .int .i64 nd], .slice (some ⟨s,0,none⟩) a.length a.length] w fun e w'=>e= .returned (.tuple #[])/\∃V,FK l (Jk r nd a) V/\Bf w' P B Ck now V/\PF w w' P B Ck:=by
 obtain⟨n,j⟩:∃n,n=a.length:=⟨_,rfl⟩;rw[<-j] at hn ⊢;obtain⟨J,d⟩:∃J,J=w.alloc (.cells #[.int .u64 r, .int .i64 nd] 274):=⟨_,rfl⟩;obtain⟨sb,k⟩:∃sb,sb=w.heap.size:=⟨_,rfl⟩;have b:Below w.heap.size w J:=by rw[d];exact (Zk _ _).alloc (Zx _) _
 have C:Bv J sb r nd:=by rw[d,k];exact heap_alloc_new w _
 obtain⟨F,N⟩:=(show s<w.heap.size/\True from⟨by obtain⟨cur,q,_⟩:=M;exact Zaa q,trivial⟩);have L:=h.pb;have D:sb≠P:=by omega
 have H:=Zz (Zq b (Zq C (Zq (M.at_ (b.block s F)) (Zq (h.Aj b) (Zq U (Zq j h.apart))))));have u:=Zz (Zq k d);clear h U M b C F N L k d j
 go_enter func152,ntmps152
 go_upto_region 2 with fail
 rw[<-u.o.1,<-u.o.2]
 go_loopw [10] (fun Q wr=>∃(i:Nat) (li:List Tm),Q= .int .i64 i/\i<=n/\FK l (Jk r nd (a.take i)) li/\Bf wr P B Ck now li/\PF J wr P B Ck) (fun Q _=>n - (intOf Q).toNat)
 case atStart=>exact⟨0,l,rfl,by omega, .nil,H.o.2.2.2.1,PF.refl _ _ _ _⟩
 case round =>
  obtain⟨i,li,rfl,hi,E,p,c⟩:=hrel;have T:=Zz (Zq E (Zq p c));by_cases Z:i<n
  ·have m:Bv wr sb r nd:=(c.other H.o.2.1 (by decide) D).trans H.o.2.1
   obtain⟨cv,z,_⟩:=H.o.2.2.1;have G:Df wr s a:=H.o.2.2.1.at_ (c.other z (by decide) O);obtain⟨z0,z1⟩:=m.cells;have v0:=G.cell (i:=i) (by have:=H.o.2.2.2.2.2.1;omega);obtain⟨q,K⟩:∃q,q=a.getD i 0:=⟨_,rfl⟩;rw[<-K] at v0
   have A:q∈a:=by
    rw[K,ZQ,ZZ (by have:=H.o.2.2.2.2.2.1;omega)];exact List.getElem_mem _
   have Y:=Zz K;have W:=Zz (Jg wr.drew P B Ck now li _ r nd q (p.Aj ((Zk _ _).drew)) (H.o.2.2.2.2.1 q A));have f:Bv wr.drew sb r nd:=m;have t:=Zz f;have i1:(i:Int)<(n:Int):=by omega
   clear E p c m z G K A f
   go_upto_region 4 with fail
   go_region_held3 (fun w'=>w'.cell? ⟨sb,0,none⟩=some (.int .u64 r)/\w'.cell? ⟨sb,1,none⟩=some (.int .i64 nd)) (go_keep) ((go_at_call 225;refine W.o.mono ?_;rintro e w3 ⟨x,l1,rfl,v,I,g⟩;have X:=Zz (Zq v (Zq I g));have y:=(show Bv w3 sb r nd from (g.other t.o (by decide) D).trans t.o).cells;have y0:=y.1;have y1:=y.2;clear v I g y))
   all_goals
    go_wp2_with fail
    go_roundw
    case rel =>
     obtain⟨q1,R,S⟩:=X.o;obtain⟨u1,u2,u3⟩:=T.o
     have ht:Jk r nd (a.take (i+1))=Jk r nd (a.take i)++[Bb r nd q]:=by
      unfold Jk;rw[List.take_add_one,List.map_append,Y.o,ZQ];rw[ZZ (by have:=H.o.2.2.2.2.2.1;omega)]
      rfl
     refine⟨i+1,l1,by go_num,by omega,?_,R,(u3.trans (PF.Ae ((Zk _ _).drew))).trans S⟩;rw[ht];exact .snoc _ _ _ _ x u1 q1
    case measure=>simp[intOf];omega
  ·have e:i=n:=by omega
   subst e;have i1:¬(i:Int)<(i:Int):=by omega
   clear Z;go_wp2_with fail
   go_end0
   obtain⟨q1,R,S⟩:=T.o;refine⟨rfl,li,?_,R,(PF.Ae H.o.1).trans S⟩;rw[List.take_of_length_le (by have:=H.o.2.2.2.2.2.1;omega)] at q1;exact q1
theorem Lt (w:World)(P B now:Nat)(l:List Tm)(r nd a sq:Int)(h:Bf w P B Ck now l)(m:BM r nd 2 (Bb r nd 2))(A:0<=a)(C:a<=4611686018427387904)(hl:l.length<200) :
  Calls prog 148 #[.pointer (some ⟨P,4,none⟩), .agg #[.int .u64 r, .int .i64 nd], .int .i64 a] w fun e w'=>e= .returned (.tuple #[])/\(∃u,((a=0/\u=l)\/(a≠0/\∃x s,Cb l (Bb r nd 2) x s/\u=s++[⟨Bb r nd 2,Za2 now (now+a),sq+1⟩]))/\Bf w' P B Ck now u)/\PF w w' P B Ck:=by
 obtain⟨p,d⟩:∃p,p=w.alloc (.cells #[.int .u64 r, .int .i64 nd] 274):=⟨_,rfl⟩;obtain⟨sb,i⟩:∃sb,sb=w.heap.size:=⟨_,rfl⟩;have g:Below w.heap.size w p:=by rw[d];exact (Zk _ _).alloc (Zx _) _
 have n:Bv p sb r nd:=by rw[d,i];exact heap_alloc_new w _
 have t:=h.pb;have D:sb≠P:=by omega
 obtain⟨z0,I⟩:=n.cells;have b:=h.Aj g;have f:=ET p P B now l (Bb r nd 2) r nd 2 a sq b m A C hl;have H:=Zz (Zq g (Zq b f));have c:=Zz (Zq i d);clear h m g n t i d f b;by_cases q:a=0
 ·subst q
  go_enter func148,ntmps148
  go_wp2_with fail
  try rw[<-c.o.1,<-c.o.2]
  go_end0
  exact⟨rfl,⟨l,Zu ⟨by first | rfl | trivial,rfl⟩,H.o.2.1⟩,PF.Ae H.o.1⟩
 ·have g1:(a != 0)=true:=by simpa using q
  have z:decide (a=0)=false:=decide_eq_false q;have y:=Zz q
  go_enter func148,ntmps148
  go_upto_region 2 with fail
  rw[<-c.o.1,<-c.o.2];go_wp2_with (go_at_call 198;refine H.o.2.2.mono ?_;rintro e G ⟨rfl,x,s,j,b,k⟩;have v:=Zz (Zq j (Zq b k));clear j b k)
  go_end0
  obtain⟨q1,E,F⟩:=v.o;exact⟨rfl,⟨_,Zj ⟨y.o,x,s,q1,rfl⟩,E⟩,(PF.Ae H.o.1).trans F⟩
open Go.RowKit
def QuAt (w:World)(P B:Nat)(xs:List AZ):Prop:=∃a n c f ys,FV w P B a n c f ys xs
def EnAt (w:World)(P B:Nat)(ob:Option Nat)(xs:List Int):Prop:=∃a n c f ys,Gw w P B a n c f ys xs/\(Value.slice a n c).ownBlock=ob
structure Er (w:World)(P B:Nat)(ob:Option Nat)(rs:List Aq)(el:List Int)(qu:List AZ)(now:Nat)(l:List Tm)(lr lt sd:Int):Prop where
 kn:∃ka kc,Co w P B ka kc rs
 en:EnAt w P B ob el
 qu:QuAt w P B qu
 wh:Bf w P B Ck now l
 lr:w.cell? ⟨P,728,none⟩=some (.int .u64 lr)
 lt:w.cell? ⟨P,729,none⟩=some (.int .u64 lt)
 sd:w.cell? ⟨P,730,none⟩=some (.int .u64 sd)
 fz:∀o,w.frozen? ⟨P,o,none⟩=false
structure GF (w w':World)(P:Nat)(C:Nat->Prop)(S:Nat->Prop):Prop where
 size:w.heap.size<=w'.heap.size
 block:∀k,k<w.heap.size->k≠P->¬S k->w'.heap[k]? =w.heap[k]?
 off:∀o,¬C o->w'.cell? ⟨P,o,none⟩=w.cell? ⟨P,o,none⟩
 AE:∀o,w'.frozen? ⟨P,o,none⟩=w.frozen? ⟨P,o,none⟩
theorem Co.gf {w w':World}{P B:Nat}{b:Option Addr}{c:Nat}{rs:List Aq}{C S:Nat->Prop}(h:Co w P B b c rs)(g:GF w w' P C S)(hC:¬C 4)(f:∀k cs t fr,B<=k->w.heap[k]? =some (.cells cs t fr)->(t=266\/t=272\/t=276\/t=3)->¬S k):Co w' P B b c rs :=
 h.Cx g.size (g.off 4 hC) g.AE (fun k cs t fr d a e=>g.block k (Zaa a) (by have:=h.pb;omega) (f k cs t fr d a e))
theorem FV.gf {w w':World}{P B n c first:Nat}{a:Option Addr}{i xs:List AZ}{C S:Nat->Prop}(h:FV w P B a n c first i xs)(g:GF w w' P C S)(hC:∀o,8<=o->o<11->¬C o)(m:∀k cs t fr,B<=k->w.heap[k]? =some (.cells cs t fr)->t=274->¬S k):FV w' P B a n c first i xs:=by
 refine h.frame g.size (fun o j d=>g.off o (hC o j d)) g.AE (fun z b=> ?_);have e:=(h.row.lt z b).1;have f:=(h.row.lt z b).2;refine g.block z f (by have:=h.pb;omega) ?_;rcases h.row.2 with⟨d,_⟩ | ⟨p,cap,cur,d,_,hh,_⟩
 ·rw[d] at b;simp[Value.ownBlock] at b
 ·rw[d] at b
  simp only[Value.ownBlock,Option.some.injEq] at b;subst b;exact m _ _ _ _ e hh rfl
theorem Gw.gf {w w':World}{P B n c first:Nat}{a:Option Addr}{j xs:List Int}{C S:Nat->Prop}(h:Gw w P B a n c first j xs)(g:GF w w' P C S)(hC:∀o,5<=o->o<8->¬C o)(p:∀k cs t fr,B<=k->w.heap[k]? =some (.cells cs t fr)->t=27->(Value.slice a n c).ownBlock=some k->¬S k):Gw w' P B a n c first j xs:=by
 refine h.frame g.size (fun o m d=>g.off o (hC o m d)) g.AE (fun z b=> ?_);have f:=(h.row.lt z b).1;have i:=(h.row.lt z b).2;refine g.block z i (by have:=h.pb;omega) ?_;have e:=b;rcases h.row.2 with⟨d,_⟩ | ⟨q,cap,cur,d,_,hh,_⟩
 ·rw[d] at b;simp[Value.ownBlock] at b
 ·rw[d] at b
  simp only[Value.ownBlock,Option.some.injEq] at b;subst b;exact p _ _ _ _ f hh rfl e
theorem Bf.gf {w w':World}{P B n:Nat}{l:List Tm}{C S:Nat->Prop}(h:Bf w P B Ck n l)(g:GF w w' P C S)(hC:∀o,11<=o->o<728->¬C o)(e:∀k cs t fr,B<=k->w.heap[k]? =some (.cells cs t fr)->t=288->¬S k)(d:∀k es c,B<=k->w.heap[k]? =some (.map es c)->¬S k):Bf w' P B Ck n l :=
 h.Cx g.size (fun o b a=>g.off o (hC o b a)) g.AE (fun k cs fr b a=>g.block k (Zaa a) (by have:=h.pb;omega) (e k _ _ _ b a rfl)) (fun k es c b a=>g.block k (Zaa a) (by have:=h.pb;omega) (d k es c b a))
theorem GF.DN {w w':World}{P B:Nat}(h:PF w w' P B Ck)(d:P<w.heap.size):GF w w' P (fun o=>11<=o/\o<728) (fun k=>¬(k<B)/\¬∃cs t fr,w.heap[k]? =some (.cells cs t fr)/\t≠288) :=
 ⟨h.size,fun k f a e=>h.block k f a (by
  by_cases b:k<B
  ·exact Zu (Zu b)
  ·by_cases c:∃cs t fr,w.heap[k]? =some (.cells cs t fr)/\t≠288
   ·exact Zj c
   ·exact absurd ⟨b,c⟩ e),fun o g=>h.off d o (by omega),h.AE d⟩
theorem GF.Wo {w w':World}{P:Nat}{ob:Option Nat}{lo hi:Nat}(h:RF w w' P ob lo hi)(b:P<w.heap.size):GF w w' P (fun o=>lo<=o/\o<hi) (fun k=>some k=ob) :=
 ⟨h.size,fun k d a c=>h.block k d a c,fun o e=>h.off b o (by omega),h.AE b⟩
theorem GF.IT {w w':World}{P b g:Nat}(h:Du w w' b g)(d:P<w.heap.size)(f:P≠b)(hg:P≠g):GF w w' P (fun _=>False) (fun k=>k=b\/k=g):=by
 have e:=h.block P d f hg;exact⟨h.size,fun k i _ c=>h.block k i (fun x=>c (Zu x)) (fun x=>c (Zj x)),fun o _=>World.cell?_of_block (a:=⟨P,o,none⟩) e,fun o=>World.frozen?_of_block (a:=⟨P,o,none⟩) e⟩
theorem GF.set (w:World)(P o:Nat)(v:Value):GF w (w.setCell ⟨P,o,none⟩ v) P (fun x=>x=o) (fun _=>False) :=
 ⟨by simp[World.setCell],fun k _ a _=>Zl w ⟨P,o,none⟩ v k a,fun x b=>Zac w P o x v (fun e=>b e.symm),fun x=>by rw[World.frozen?_setCell]⟩
variable {w w':World} {P B:Nat} {ob:Option Nat} {rs:List Aq} {el:List Int} {qu:List AZ} {now:Nat} {l:List Tm} {lr lt sd:Int}
theorem Er.pb (h:Er w P B ob rs el qu now l lr lt sd):P<B/\B<=w.heap.size:=h.wh.pb
theorem Er.pl (h:Er w P B ob rs el qu now l lr lt sd):P<w.heap.size:=by have:=h.pb;omega
theorem Er.below (h:Er w P B ob rs el qu now l lr lt sd)(b:Below w.heap.size w w'):Er w' P B ob rs el qu now l lr lt sd:=by
 have e:=b.block P h.pl;obtain⟨r,s,m⟩:=h.kn;obtain⟨a,n,c,f,t,p,d⟩:=h.en;obtain⟨i,n',j,k,g,q⟩:=h.qu;exact⟨⟨r,s,m.below b⟩,⟨a,n,c,f,t,p.below b,d⟩,⟨i,n',j,k,g,q.below b⟩,h.wh.Aj b,(World.cell?_of_block (a:=⟨P,728,none⟩) e).trans h.lr,(World.cell?_of_block (a:=⟨P,729,none⟩) e).trans h.lt,(World.cell?_of_block (a:=⟨P,730,none⟩) e).trans h.sd,fun o=>(World.frozen?_of_block (a:=⟨P,o,none⟩) e).trans (h.fz o)⟩
theorem Er.Dm (h:Er w P B ob rs el qu now l lr lt sd)(hf:PF w w' P B Ck){b:Nat}{p:List Tm}(hw:Bf w' P B Ck b p):Er w' P B ob rs el qu b p lr lt sd:=by
 have g:=GF.DN hf h.pl;obtain⟨y,z,u⟩:=h.kn;obtain⟨a,n,c,f,A,v,j⟩:=h.en;obtain⟨q,n',r,s,m,x⟩:=h.qu
 refine⟨⟨y,z,u.gf g (by omega) (fun k cs t fr _ e i d=>d.2 ⟨cs,t,fr,e,by rcases i with rfl | rfl | rfl | rfl<;>decide⟩)⟩,
  ⟨a,n,c,f,A,v.gf g (fun o _ _=>by omega) (fun k cs t fr _ e i _ d=>d.2 ⟨cs,t,fr,e,by subst i;decide⟩),j⟩,
  ⟨q,n',r,s,m,x.gf g (fun o _ _=>by omega) (fun k cs t fr _ e i d=>d.2 ⟨cs,t,fr,e,by subst i;decide⟩)⟩,hw,(g.off 728 (by omega)).trans h.lr,(g.off 729 (by omega)).trans h.lt,(g.off 730 (by omega)).trans h.sd,fun o=>(g.AE o).trans (h.fz o)⟩
theorem Er.queue (h:Er w P B ob rs el qu now l lr lt sd){a0:Option Addr}{n0 c0 f0:Nat}{q:List AZ}(u:FV w P B a0 n0 c0 f0 q qu)(hf:RF w w' P (Value.slice a0 n0 c0).ownBlock 8 11){j:List AZ}(hw:QuAt w' P B j):Er w' P B ob rs el j now l lr lt sd:=by
 have g:=GF.Wo hf h.pl
 have r:∀k,some k=(Value.slice a0 n0 c0).ownBlock->∃cs,w.heap[k]? =some (.cells cs 274 (0,0)):=by
  intro k b;rcases u.row.2 with⟨i,_⟩ | ⟨z,cap,cur,i,_,hh,_⟩
  ·rw[i] at b;simp[Value.ownBlock] at b
  ·rw[i] at b
   simp only[Value.ownBlock,Option.some.injEq] at b;subst b;exact⟨cur,hh⟩
 have no:∀{k:Nat} {cs:Array Value} {t:TypeId} {fr:Nat×Nat},w.heap[k]? =some (.cells cs t fr)->t≠274->¬some k=(Value.slice a0 n0 c0).ownBlock:=by
  intro k cs t fr e d b;obtain⟨c2,m⟩:=r k b;exact Zai e m d rfl
 obtain⟨v,x,s⟩:=h.kn;obtain⟨a,n,c,f,y,i,p⟩:=h.en
 refine⟨⟨v,x,s.gf g (by omega) (fun k cs t fr _ e d=>no e (by rcases d with rfl | rfl | rfl | rfl<;>decide))⟩,
  ⟨a,n,c,f,y,i.gf g (fun o _ _=>by omega) (fun k cs t fr _ e d _=>no e (by subst d;decide)),p⟩,hw,
  h.wh.gf g (fun o _ _=>by omega) (fun k cs t fr _ e d=>no e (by subst d;decide)) (fun k es c _ e b=>by obtain⟨c2,m⟩:=r k b;rw[e] at m;cases m),(g.off 728 (by omega)).trans h.lr,(g.off 729 (by omega)).trans h.lt,(g.off 730 (by omega)).trans h.sd,fun o=>(g.AE o).trans (h.fz o)⟩
theorem Er.ended (h:Er w P B ob rs el qu now l lr lt sd){a0:Option Addr}{n0 c0 f0:Nat}{q:List Int}(u:Gw w P B a0 n0 c0 f0 q el)(hf:RF w w' P (Value.slice a0 n0 c0).ownBlock 5 8){m:Option Nat}{i:List Int}(hw:EnAt w' P B m i):Er w' P B m rs i qu now l lr lt sd:=by
 have g:=GF.Wo hf h.pl
 have r:∀k,some k=(Value.slice a0 n0 c0).ownBlock->∃cs,w.heap[k]? =some (.cells cs 27 (0,0)):=by
  intro k b;rcases u.row.2 with⟨j,_⟩ | ⟨z,cap,cur,j,_,hh,_⟩
  ·rw[j] at b;simp[Value.ownBlock] at b
  ·rw[j] at b
   simp only[Value.ownBlock,Option.some.injEq] at b;subst b;exact⟨cur,hh⟩
 have no:∀{k:Nat} {cs:Array Value} {t:TypeId} {fr:Nat×Nat},w.heap[k]? =some (.cells cs t fr)->t≠27->¬some k=(Value.slice a0 n0 c0).ownBlock:=by
  intro k cs t fr e d b;obtain⟨c2,p⟩:=r k b;exact Zai e p d rfl
 obtain⟨v,x,s⟩:=h.kn;obtain⟨a,n,c,f,y,j⟩:=h.qu
 refine⟨⟨v,x,s.gf g (by omega) (fun k cs t fr _ e d=>no e (by rcases d with rfl | rfl | rfl | rfl<;>decide))⟩,hw,
  ⟨a,n,c,f,y,j.gf g (fun o _ _=>by omega) (fun k cs t fr _ e d=>no e (by subst d;decide))⟩,
  h.wh.gf g (fun o _ _=>by omega) (fun k cs t fr _ e d=>no e (by subst d;decide)) (fun k es c _ e b=>by obtain⟨c2,p⟩:=r k b;rw[e] at p;cases p),(g.off 728 (by omega)).trans h.lr,(g.off 729 (by omega)).trans h.lt,(g.off 730 (by omega)).trans h.sd,fun o=>(g.AE o).trans (h.fz o)⟩
theorem Er.run (h:Er w P B ob rs el qu now l lr lt sd){i:Nat}(hi:i<rs.length){r':Aq}(G:AW w' B r')(E:r'.b=(Am rs i).b)(hg:r'.ng=(Am rs i).ng)(hf:Du w w' (Am rs i).b (Am rs i).ng):Er w' P B ob (rs.set i r') el qu now l lr lt sd:=by
 obtain⟨H,I,p⟩:=h.kn;obtain⟨K,q,_,_,F,_⟩:=(p.runs i hi).Bi;have m:=(p.runs i hi).top;have s:P≠(Am rs i).b:=by have:=(p.runs i hi).bb;have:=p.pb;omega
 have u:P≠(Am rs i).ng:=by have:=p.pb;omega
 have g:=GF.IT hf h.pl s u
 have no:∀{k:Nat} {cs:Array Value} {t:TypeId} {fr:Nat×Nat},w.heap[k]? =some (.cells cs t fr)->t≠272->t≠276->¬(k=(Am rs i).b\/k=(Am rs i).ng):=by
  intro k cs t fr e j v d;rcases d with d | d
  ·exact Zai e m j d
  ·exact Zai e q v d
 obtain⟨a,n,c,f,J,C,r⟩:=h.en;obtain⟨y,n',z,A,x,D⟩:=h.qu
 refine⟨⟨H,I,p.AG hi G E hg hf⟩,⟨a,n,c,f,J,C.gf g (fun o _ _ h=>h) (fun k cs t fr _ e j _=>no e (by subst j;decide) (by subst j;decide)),r⟩,⟨y,n',z,A,x,D.gf g (fun o _ _ h=>h) (fun k cs t fr _ e j=>no e (by subst j;decide) (by subst j;decide))⟩,
  h.wh.gf g (fun o _ _ h=>h) (fun k cs t fr _ e j=>no e (by subst j;decide) (by subst j;decide)) (fun k es c _ e d=>by
   rcases d with d | d
   ·subst d;rw[m] at e;cases e
   ·subst d;rw[q] at e;cases e),(g.off 728 (fun h=>h)).trans h.lr,(g.off 729 (fun h=>h)).trans h.lt,(g.off 730 (fun h=>h)).trans h.sd,fun o=>(g.AE o).trans (h.fz o)⟩
theorem Er.num (h:Er w P B ob rs el qu now l lr lt sd)(o:Nat)(v b d e:Int)(j:(o=728/\b=v/\d=lt/\e=sd)\/(o=729/\b=lr/\d=v/\e=sd)\/(o=730/\b=lr/\d=lt/\e=v)):Er (w.setCell ⟨P,o,none⟩ (.int .u64 v)) P B ob rs el qu now l b d e:=by
 have g:=GF.set w P o (.int .u64 v);obtain⟨u,y,r⟩:=h.kn;obtain⟨a,n,c,f,z,s,i⟩:=h.en;obtain⟨m,n',p,q,k,t⟩:=h.qu;refine⟨⟨u,y,r.gf g (by omega) (fun _ _ _ _ _ _ _ h=>h)⟩,⟨a,n,c,f,z,s.gf g (fun o _ _=>by omega) (fun _ _ _ _ _ _ _ _ h=>h),i⟩,⟨m,n',p,q,k,t.gf g (fun o _ _=>by omega) (fun _ _ _ _ _ _ _ h=>h)⟩,h.wh.gf g (fun o _ _=>by omega) (fun _ _ _ _ _ _ _ h=>h) (fun _ _ _ _ _ h=>h),?_,?_,?_,fun x=>(g.AE x).trans (h.fz x)⟩
 ·rcases j with⟨rfl,rfl,rfl,rfl⟩ | ⟨rfl,rfl,rfl,rfl⟩ | ⟨rfl,rfl,rfl,rfl⟩
  ·exact World.cell?_setCell_same _ _ _ h.lr
  ·exact (g.off 728 (by omega)).trans h.lr
  ·exact (g.off 728 (by omega)).trans h.lr
 ·rcases j with⟨rfl,rfl,rfl,rfl⟩ | ⟨rfl,rfl,rfl,rfl⟩ | ⟨rfl,rfl,rfl,rfl⟩
  ·exact (g.off 729 (by omega)).trans h.lt
  ·exact World.cell?_setCell_same _ _ _ h.lt
  ·exact (g.off 729 (by omega)).trans h.lt
 ·rcases j with⟨rfl,rfl,rfl,rfl⟩ | ⟨rfl,rfl,rfl,rfl⟩ | ⟨rfl,rfl,rfl,rfl⟩
  ·exact (g.off 730 (by omega)).trans h.sd
  ·exact (g.off 730 (by omega)).trans h.sd
  ·exact World.cell?_setCell_same _ _ _ h.sd
end Go.Proofs.YtgdcjccbdmcebaaGreatDoor
