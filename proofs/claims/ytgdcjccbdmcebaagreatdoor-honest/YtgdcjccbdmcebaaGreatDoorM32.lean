import Derived.Test.YtgdcjccbdmcebaaGreatDoorM31
set_option linter.all false
set_option maxHeartbeats 8000000
set_option maxRecDepth 100000
open Go.Proofs.Tryz
open Go renaming run_make_row'->QKf,heap_alloc_new->QFm,cell_later->QFa,madeCells->QGu
open Go.Obj renaming cells.injEq->QIq
open Go.World renaming cell?_of_block->QEc,rowIs_made->QKg,size_alloc->QKh
open Option renaming some.injEq->QCf
namespace Go.Proofs.YtgdcjccbdmcebaaGreatDoor
open Go.RowKit
attribute [local go_sem ↓] Go.wp_at_zero Go.wp_at_succ
variable {rk ob:Option Nat}{qh hb bd D Z B k P n bn q:Nat}{w wx w' wy:World}{cs:Array Value}{e:Ab}{fr:Nat×Nat}{t:TypeId}{rs:List Aq}{ka la:Option Addr}{xs:List Value}
def hTy (t:TypeId):Bool:=[210,288,274,266,272,276,27,92,95].contains t
theorem JQ (h:hTy t=false):t≠210/\t≠288/\t≠274/\t≠266/\t≠272/\t≠276/\t≠27/\t≠92/\t≠95:=by
 refine⟨?_,?_,?_,?_,?_,?_,?_,?_,?_⟩<;>(intro e;subst e;revert h;decide)
def RZ (cs:Array Value):Prop:=∀t v,cs[0]? ≠some (.iface t v)
structure Ex (w w':World)(rk:Option Nat):Prop where
 size:w.heap.size<=w'.heap.size
 block:∀(k:Nat) (cs:Array Value) (t:TypeId) (fr:Nat×Nat),w.heap[k]? =some (.cells cs t fr)->RZ cs->hTy t=false->w'.heap[k]? =w.heap[k]?
 row:∀k:Nat,rk=some k->w'.heap[k]? =w.heap[k]?
theorem Ex.trans {a b c:World}(h:Ex a b rk)(g:Ex b c rk):Ex a c rk :=
 ⟨Zv h.size g.size,fun k cs t fr e hn d=>(g.block k cs t fr ((h.block k cs t fr e hn d).trans e) hn d).trans (h.block k cs t fr e hn d),fun k e=>(g.row k e).trans (h.row k e)⟩
structure XJ (w:World)(B:Nat)(ob:Option Nat)(k:Nat):Prop where
 Au:∃cs fr,w.heap[k]? =some (.cells cs 27 fr)/\RZ cs
 GJ:k<B\/ob≠some k
theorem XJ.lt (h:XJ w B ob k):k<w.heap.size:=by obtain⟨cs,fr,e,_⟩:=h.Au;exact Zaa e
structure HH (qh:Nat)(w wx:World)(hb D bd:Nat)(rk:Option Nat)(Z:Nat)(e:Ab):Prop where
 ex:∃P B R bn ob N,OW qh w wx hb P B R D bd bn ob N e/\N<=Z/\∀k,rk=some k->XJ wx B ob k
theorem HH.mono {a:Nat}(h:HH qh w wx hb D bd rk Z e)(f:Z<=a):HH qh w wx hb D bd rk a e:=by
 obtain⟨P,B,R,bn,ob,N,b,c,d⟩:=h.ex;exact⟨P,B,R,bn,ob,N,b,Zv c f,d⟩
theorem HH.below (h:HH qh w wx hb D bd rk Z e)(a:ZY wx wy):HH qh w wy hb D bd rk Z e/\Ex wx wy rk:=by
 obtain⟨P,B,R,bn,ob,N,c,d,b⟩:=h.ex;refine⟨⟨P,B,R,bn,ob,N,c.below a,d,fun k hk=> ?_⟩,a.size,fun k cs t fr e _ _=>a.block k (Zaa e),fun k hk=>a.block k (b k hk).lt⟩;obtain⟨cs,fr,e,hn⟩:=(b k hk).Au;exact⟨⟨cs,fr,(a.block k (Zaa e)).trans e,hn⟩,(b k hk).GJ⟩
theorem HH.Db (h:HH qh w wx hb D bd rk Z e):ZY w wx:=by
 obtain⟨P,B,R,bn,ob,N,a,b,c⟩:=h.ex;exact a.Db
theorem AT.apart {R N:Nat}(h:AT qh w hb P B R D bd bn ob N e)(hk:w.heap[k]? =some (.cells cs t fr))(hn:RZ cs)(m:t≠92)(hh:t≠95):k≠hb/\k≠P/\k≠D/\k≠bd/\k≠bn:=by
 obtain⟨g,d,a,_⟩:=h.ex;obtain⟨s,u,dk,_⟩:=a.dk.c;obtain⟨p,f3⟩:=a.dk.fd;obtain⟨r,f4⟩:=a.dk.fn
 have hm:∀b f i,AE w b f i->k≠b:=fun b f i o l=>by
  obtain⟨es,c,j,_⟩:=o.own;rw[<-l,hk] at j;cases j
 refine⟨Zah hk h.host.Au hh,fun x=> ?_,Zah hk dk.Au m,hm _ _ _ f3,hm _ _ _ f4⟩;subst x;have c0:=a.log.c0;rw[Zad hk 0] at c0;exact hn _ _ c0
theorem HH.call {R N d Z i:Nat}{b:Option Nat}{e':Ab}(h:OW qh w wx hb P B R D bd bn ob N e)(c:∀k,rk=some k->XJ wx B ob k)(j:AT qh wy hb P B R D bd bn b d e')(hf:EF wx wy P B R D bd bn ob)(l:As wx ob b)(o:d<=i):HH qh w wy hb D bd rk i e'/\Ex wx wy rk:=by
 have a:∀k,rk=some k->wy.heap[k]? =wx.heap[k]? :=fun k hk=>by
  obtain⟨cs,fr,e,hn⟩:=(c k hk).Au;obtain⟨a0,a1,a2,a3,a4⟩:=h.host.apart e hn (by decide) (by decide);refine hf.block k (Zaa e) a1 a2 a3 a4 (Zj fun f g e'=> ?_) ?_
  .rw[e] at e'
   simp only[QCf,QIq] at e';exact absurd e'.2.1 (by decide)
  .rcases (c k hk).GJ with q | q
   .exact Zu q
   .exact Zj ⟨cs,_,fr,e,by decide,by decide,by decide,by decide,by decide,fun _ x=>q x.symm⟩
 refine⟨⟨P,B,R,bn,b,d,h.call j hf,o,fun k hk=> ?_⟩,hf.size,fun k cs t fr e hn m=> ?_,a⟩
 .obtain⟨cs,fr,e,hn⟩:=(c k hk).Au
  refine⟨⟨cs,fr,(a k hk).trans e,hn⟩,?_⟩;rcases (c k hk).GJ with q | q
  .exact Zu q
  .refine Zj fun x=> ?_
   rcases l k x with y | y
   .exact q y
   .have:=Zaa e;omega
 .obtain⟨t1,t2,t3,t4,t5,t6,t7,t8,t9⟩:=JQ m
  obtain⟨a0,a1,a2,a3,a4⟩:=h.host.apart e hn t8 t9;refine hf.block k (Zaa e) a1 a2 a3 a4 (Zj fun f g e'=> ?_) (Zj ⟨cs,t,fr,e,t2,t3,t4,t5,t6,fun x=>absurd x t7⟩);rw[e] at e';simp only[QCf,QIq] at e';exact absurd e'.2.1 t1
theorem Yv (h:HH qh w wx hb D bd rk Z e)(ok:Aj e)(AZ:Az e)(j:Z<=1000000000000) :
  Calls prog 61 #[.pointer (some ⟨hb,0,none⟩),.agg #[.int .i64 (-1),.int .i64 (-1),.int .i64 0,.int .i64 0]] wx fun x w'=>∃a b c f y e',x=.returned (.tuple #[.agg #[.int .u64 a,.int .i64 b,.int .i64 c,.int .u64 f],.bool y,.int .i64 0])/\FG e a b c f y e'/\HH qh w w' hb D bd rk (Z+1000000) e'/\Ex wx w' rk:=by
 obtain⟨P,B,R,bn,ob,N,d,g,i⟩:=h.ex;refine (Ih wx hb P B R D bd bn N ob e d.host ok AZ (Zv g j)).mono ?_;rintro x w' ⟨l,a,b,c,f,y,e',rfl,q1,m,o,p⟩;exact⟨a,b,c,f,y,e',rfl,q1,HH.call (Z:=Z) d i m p o (by omega)⟩
theorem Ve {e':Ab}{op:Int}{y:Int}(h:HH qh w wx hb D bd rk Z e)
  (hc:∀P B R bn ob N,AT qh wx hb P B R D bd bn ob N e->N<=Z->Calls prog 26 #[.pointer (some ⟨hb,0,none⟩),.int .i64 op,.int .u64 n,Zbd (-1) (-1) 0 0] wx fun x w'=>∃a,x=.returned (.int .i64 y)/\AT qh w' hb P B R D bd bn a (N+1000000) e'/\As wx ob a/\EF wx w' P B R D bd bn ob) :
  Calls prog 26 #[.pointer (some ⟨hb,0,none⟩),.int .i64 op,.int .u64 n,.agg #[.int .i64 (-1),.int .i64 (-1),.int .i64 0,.int .i64 0]] wx fun x w'=>x=.returned (.int .i64 y)/\HH qh w w' hb D bd rk (Z+1000000) e'/\Ex wx w' rk:=by
 obtain⟨P,B,R,bn,ob,N,b,c,d⟩:=h.ex;refine (hc P B R bn ob N b.host c).mono ?_;rintro x w' ⟨a,rfl,f,g,i⟩;exact⟨rfl,HH.call (Z:=Z) b d f i g (by omega)⟩
theorem On (h:HH qh w wx hb D bd rk Z e)(ok:Aj e)(AZ:Az e)(a:Z<=1000000000000)(hn:n<18446744073709551616) :
  Calls prog 26 #[.pointer (some ⟨hb,0,none⟩),.int .i64 4,.int .u64 n,.agg #[.int .i64 (-1),.int .i64 (-1),.int .i64 0,.int .i64 0]] wx fun x w'=>x=.returned (.int .i64 (CO 7 (e.complete n)))/\HH qh w w' hb D bd rk (Z+1000000) ((e.complete n).getD e)/\Ex wx w' rk :=
 Ve h fun P B R bn ob N q1 b=>Ok wx hb P B R D bd bn N ob e n q1 ok AZ (Zv b a) hn
theorem Yr (h:HH qh w wx hb D bd rk Z e)(ok:Aj e)(AZ:Az e)(a:Z<=1000000000000)(hn:n<18446744073709551616) :
  Calls prog 26 #[.pointer (some ⟨hb,0,none⟩),.int .i64 5,.int .u64 n,.agg #[.int .i64 (-1),.int .i64 (-1),.int .i64 0,.int .i64 0]] wx fun x w'=>x=.returned (.int .i64 (CO 7 (e.fail n)))/\HH qh w w' hb D bd rk (Z+1000000) ((e.fail n).getD e)/\Ex wx w' rk :=
 Ve h fun P B R bn ob N q1 b=>Ol wx hb P B R D bd bn N ob e n q1 ok AZ (Zv b a) hn
theorem Yq (h:HH qh w wx hb D bd rk Z e)(ok:Aj e)(AZ:Az e)(a:Z<=1000000000000)(hn:n<18446744073709551616) :
  Calls prog 26 #[.pointer (some ⟨hb,0,none⟩),.int .i64 3,.int .u64 n,.agg #[.int .i64 (-1),.int .i64 (-1),.int .i64 0,.int .i64 0]] wx fun x w'=>x=.returned (.int .i64 (CO 7 (e.AY n)))/\HH qh w w' hb D bd rk (Z+1000000) ((e.AY n).getD e)/\Ex wx w' rk :=
 Ve h fun P B R bn ob N q1 b=>Vc wx hb P B R D bd bn N ob e n q1 ok AZ (Zv b a) hn
theorem Yw (h:HH qh w wx hb D bd rk Z e)(ok:Aj e)(AZ:Az e)(f:Z<=1000000000000)(hn:n<18446744073709551616) :
  Calls prog 26 #[.pointer (some ⟨hb,0,none⟩),.int .i64 7,.int .u64 n,.agg #[.int .i64 (-1),.int .i64 (-1),.int .i64 0,.int .i64 0]] wx fun x w'=>x=.returned (.int .i64 0)/\∃a,BR e n a/\HH qh w w' hb D bd rk (Z+1000000) a/\Ex wx w' rk:=by
 obtain⟨P,B,R,bn,ob,N,b,c,d⟩:=h.ex;refine (Om wx hb P B R D bd bn N ob e n b.host ok AZ (Zv c f) hn).mono ?_;rintro x w' ⟨g,a,rfl,q1,i,j,l⟩;exact⟨rfl,a,q1,HH.call (Z:=Z) b d i l j (by omega)⟩
theorem Vf (h:HH qh w wx hb D bd rk Z e)(id:Int) :
  Calls prog 27 #[.pointer (some ⟨hb,0,none⟩),.int .u64 id] wx fun x w'=>∃v a,x=.returned (.tuple #[v,.int .i64 a])/\Ea wx.heap.size w' e id v a/\ZY wx w':=by
 obtain⟨P,B,R,bn,ob,N,b,c,d⟩:=h.ex;exact JS wx hb P B R D bd bn N ob e id b.host
theorem PZ (w:World)(hb P B R D bd bn N:Nat)(ob:Option Nat)(e:Ab)(h:AT qh w hb P B R D bd bn ob N e) :
  Calls prog 50 #[.pointer (some ⟨hb,0,none⟩)] w fun x w'=>x=.returned (.tuple #[.int .u64 e.time,.int .u64 e.Ar])/\ZY w w':=by
 obtain⟨g,d,b,_⟩:=h.ex;have f:=Zz (PG w P B R D bd bn ob g d e b);have c1:=h.host.cells.2;clear h b
 go_enter func50,ntmps50
 go_wp2_with (go_at_call 97;refine f.o.mono ?_;rintro _ i ⟨rfl,a⟩;have c:=Zz a;clear a)
 go_ret2
 exact⟨rfl,c.o⟩
theorem Vd (h:HH qh w wx hb D bd rk Z e) :
  Calls prog 50 #[.pointer (some ⟨hb,0,none⟩)] wx fun x w'=>x=.returned (.tuple #[.int .u64 e.time,.int .u64 e.Ar])/\ZY wx w':=by
 obtain⟨P,B,R,bn,ob,N,a,b,c⟩:=h.ex;exact PZ wx hb P B R D bd bn N ob e a.host
structure HL (w wx:World)(hb D bd:Nat)(rk:Option Nat)(Z:Nat)(e:Ab):Prop where
 ex:∃R bn N recs,QZ wx hb R D bd bn N recs e/\N<=Z/\ZY w wx/\(w.heap.size<=hb/\w.heap.size<=D/\w.heap.size<=bd)/\w.heap.size<=bn/\∀k,rk=some k->∃cs fr,wx.heap[k]? =some (.cells cs 27 fr)
theorem HF.low (h:HF wx wy hb D bd bn)(a:ZY w wx)(hf:(w.heap.size<=hb/\w.heap.size<=D/\w.heap.size<=bd)/\w.heap.size<=bn):ZY w wy :=
 ⟨h.os.trans a.os,h.tape.trans a.tape,h.output.trans a.output,Zv a.size h.size,fun k hk=>(h.block k (Zy hk a.size) (by omega) (by omega) (by omega) (by omega)).trans (a.block k hk)⟩
theorem Yt (h:HH qh w wx hb D bd rk Z e)(kept part:Int)(j: -9223372036854775808<=part/\part<=9223372036854775807) :
  Calls prog 25 #[.pointer (some ⟨hb,0,none⟩),.int .i64 kept,.int .i64 part] wx fun x w'=>x=.returned (.tuple #[])/\HL w w' hb D bd rk Z e/\Ex wx w' rk:=by
 obtain⟨P,B,R,bn,ob,N,b,i,g⟩:=h.ex;refine (SR wx hb P B R D bd bn N ob e kept part b.host j).mono ?_;rintro x w' ⟨rfl,f,c,q1,o,d⟩;obtain⟨⟨f1,f2,f3,f4,f5⟩,f6,f7⟩:=b.GJ;have l:=b.Db.size
 have a:∀k,rk=some k->w'.heap[k]? =wx.heap[k]? :=fun k hk=>by
  obtain⟨cs,fr,e,hn⟩:=(g k hk).Au;obtain⟨a0,a1,a2,a3,a4⟩:=b.host.apart e hn (by decide) (by decide);exact d.block k (Zaa e) a0 a2 a3 a4
 refine⟨rfl,⟨_,f,N,c,o,i,d.low b.Db ⟨⟨f1,f3,f4⟩,f5⟩,⟨f1,f3,f4⟩,Zv l q1,fun k hk=> ?_⟩,d.size,fun k cs t fr e hn m=> ?_,a⟩
 .obtain⟨cs,fr,e,hn⟩:=(g k hk).Au
  exact⟨cs,fr,(a k hk).trans e⟩
 .obtain⟨t1,t2,t3,t4,t5,t6,t7,t8,t9⟩:=JQ m
  obtain⟨a0,a1,a2,a3,a4⟩:=b.host.apart e hn t8 t9;exact d.block k (Zaa e) a0 a2 a3 a4
theorem Yu (h:HL w wx hb D bd rk Z e)(E:e.Ah≠0)(AZ:Az e)(G:Z<=1000000000000)(o:∀k,rk=some k->∀cs fr,wx.heap[k]? =some (.cells cs 27 fr)->RZ cs)(I:qh<wx.heap.size) :
  Calls prog 12 #[.pointer (some ⟨hb,0,none⟩),.agg #[.int .i64 (-1),.int .i64 (-1),.int .i64 0,.int .i64 0]] wx fun x w'=>x=.returned (.int .i64 0)/\HH qh w w' hb D bd rk Z e/\Ex wx w' rk:=by
 obtain⟨R,bn,N,b,i,u,v,j,y,z⟩:=h.ex
 have hrec:b≠[]:=fun x=>by
  subst x;have:=i.log
  cases this
  exact E rfl
 obtain⟨S,T,dk,_⟩:=i.dk.c;obtain⟨M,f3⟩:=i.dk.fd;obtain⟨O,f4⟩:=i.dk.fn
 have GJ:∀(k:Nat) (cs:Array Value) (t:TypeId) (fr:Nat×Nat),wx.heap[k]? =some (.cells cs t fr)->t≠92->t≠95->k≠hb/\k≠D/\k≠bd/\k≠bn:=fun k cs t fr hk H hh=>by
  have hm:∀m f r,AE wx m f r->k≠m:=fun m f r K C=>by
   obtain⟨es,c,s,_⟩:=K.own;rw[<-C,hk] at s;cases s
  exact⟨Zah hk i.host.Au hh,Zah hk dk.Au H,hm _ _ _ f3,hm _ _ _ f4⟩
 refine (Qb wx hb R D bd bn N b e i hrec AZ (Zv u G) I).mono ?_;rintro x w' ⟨rfl,P,B,A,ob,q1,U,V,l⟩
 have a:∀k,rk=some k->w'.heap[k]? =wx.heap[k]? :=fun k hk=>by
  obtain⟨cs,fr,e⟩:=z k hk;obtain⟨a0,a2,a3,a4⟩:=GJ k cs _ fr e (by decide) (by decide);exact l.block k (Zaa e) a0 a2 a3 a4
 have Q:=v.size;obtain⟨g,d,L,_⟩:=q1.ex;have F:=L.ne.p;refine⟨rfl,⟨P,B,A,bn,ob,N,⟨q1,l.low v ⟨j,y⟩,⟨j.1,by omega,j.2.1,j.2.2,y⟩,by omega,by omega⟩,u,fun k hk=> ?_⟩,l.size,fun k cs t fr e hn J=> ?_,a⟩
 .obtain⟨cs,fr,e⟩:=z k hk
  exact⟨⟨cs,fr,(a k hk).trans e,o k hk cs fr e⟩,Zu (by have:=Zaa e;omega)⟩
 .obtain⟨t1,t2,t3,t4,t5,t6,t7,t8,t9⟩:=JQ J
  obtain⟨a0,a2,a3,a4⟩:=GJ k cs t fr e t8 t9;exact l.block k (Zaa e) a0 a2 a3 a4
open Go.RowKit
theorem Iu {size:Nat}{e:TypeId}{v:Value}(h:w.ownsRow B e size v n xs)(hb:∀j,B<=j->j<w.heap.size->j≠k->w'.heap[j]? =w.heap[j]?)(hn:∀g cs fr,B<=g->v.ownBlock=some g->w.heap[g]? =some (.cells cs e fr)->g≠k):w'.ownsRow B e size v n xs:=by
 refine⟨h.1,?_⟩;rcases h.2 with a | ⟨g,cap,cur,rfl,hg,hh,b⟩
 .exact Zu a
 .exact Zj ⟨g,cap,cur,rfl,hg,(hb g hg (Zaa hh) (hn g _ _ hg rfl hh)).trans hh,b⟩
theorem AR.spare {r:Aq}(h:AR qh w B r)(hb:∀j,B<=j->j<w.heap.size->j≠k->w'.heap[j]? =w.heap[j]?)(hk:w.heap[k]? =some (.cells cs t fr))(d:(t=3/\k=qh)\/t=27):AR qh w' B r:=by
 have ne:∀{j:Nat} {c2:Array Value} {t2:TypeId} {f2:Nat×Nat},w.heap[j]? =some (.cells c2 t2 f2)->t2≠3->t2≠27->j≠k:=fun e n1 n2=>Zah e hk (by rcases d with⟨rfl,_⟩ | rfl<;>assumption)
 refine⟨(hb _ h.bb h.lt (ne h.top (by decide) (by decide))).trans h.top,h.bb,Iu h.row hb (fun g c f _ _ e=>ne e (by decide) (by decide)),fun i hi=>⟨Iu (h.DW i hi).1 hb (fun g c f _ b e x=> ?_),(h.DW i hi).2⟩,h.some_,h.Br⟩;subst x;rcases d with⟨_,rfl⟩ | rfl
 .rcases (h.DW i hi).1.2 with⟨a,_⟩ | ⟨l,cap,cur,a,_⟩
  .rw[a] at b;simp[Value.ownBlock] at b
  .rw[a] at b
   simp only[Value.ownBlock,QCf] at b;subst b;simp only[Value.slice.injEq] at a;exact (h.DW i hi).2 a.1
 .rw[e] at hk;simp only[QCf,QIq] at hk;exact absurd hk.2.1 (by decide)
theorem Cd.spare {b:Nat}(h:Cd qh w P B ka b rs)(g:GF w w' P (fun _=>False) (fun x=>x=k))(hk:w.heap[k]? =some (.cells cs t fr))(a:(t=3/\k=qh)\/t=27):Cd qh w' P B ka b rs:=by
 have hp:=h.pb;have hb:∀j,B<=j->j<w.heap.size->j≠k->w'.heap[j]? =w.heap[j]? :=fun j m d l=>g.block j d (by omega) l
 have ne:∀{j:Nat} {c2:Array Value} {t2:TypeId} {f2:Nat×Nat},w.heap[j]? =some (.cells c2 t2 f2)->t2≠3->t2≠27->j≠k:=fun e n1 n2=>Zah e hk (by rcases a with⟨rfl,_⟩ | rfl<;>assumption)
 exact⟨(g.off 4 id).trans h.c,fun o=>(g.AD o).trans (h.fz o),Iu h.row hb (fun g c f _ _ e=>ne e (by decide) (by decide)),fun i hi=>(h.runs i hi).spare hb hk a,h.bA,h.gA,h.pb,Zv h.bs g.size,h.Br⟩
theorem Dq.spare {el:List Int}{qu:List Ba}{now:Nat}{l:List Tm}{lr lt sd:Int}(h:Dq qh w P B ob rs el qu now l lr lt sd)(g:GF w w' P (fun _=>False) (fun x=>x=k))(hk:w.heap[k]? =some (.cells cs t fr))(b:(t=3/\k=qh)\/(t=27/\(k<B\/ob≠some k))):Dq qh w' P B ob rs el qu now l lr lt sd:=by
 have ne:∀{j:Nat} {c2:Array Value} {t2:TypeId} {f2:Nat×Nat},w.heap[j]? =some (.cells c2 t2 f2)->t2≠3->t2≠27->¬j=k:=fun e n1 n2=>Zah e hk (by rcases b with⟨rfl,_⟩ | ⟨rfl,_⟩<;>assumption)
 obtain⟨ka,F,A⟩:=h.kn;obtain⟨a,n,c,f,G,C,d⟩:=h.en;obtain⟨s,n',u,y,r,E⟩:=h.qu
 refine⟨⟨ka,F,A.spare g hk (b.imp id And.left)⟩,⟨a,n,c,f,G,C.gf g (fun o _ _ h=>h) (fun j v I z H e p i m=> ?_),d⟩,⟨s,n',u,y,r,E.gf g (fun o _ _ h=>h) (fun j cs t fr _ e b=>ne e (by subst b;decide) (by subst b;decide))⟩,
  h.wh.gf g (fun o _ _ h=>h) (fun j cs t fr _ e b=>ne e (by subst b;decide) (by subst b;decide)) (fun j es c _ e m=>by subst m;rw[hk] at e;cases e),(g.off 728 id).trans h.lr,(g.off 729 id).trans h.lt,(g.off 730 id).trans h.sd,fun o=>(g.AD o).trans (h.fz o),Zy h.qs g.size⟩
 subst m;rcases b with⟨rfl,_⟩ | ⟨rfl,x | x⟩
 .rw[e] at hk;simp only[QCf,QIq] at hk;rw[p] at hk;exact absurd hk.2.1 (by decide)
 .omega
 .exact x (d.symm.trans i)
theorem BE.spare (h:BE qh w P B ob e)(g:GF w w' P (fun _=>False) (fun x=>x=k))(hk:w.heap[k]? =some (.cells cs t fr))(i:(t=3/\k=qh)\/(t=27/\(k<B\/ob≠some k))):BE qh w' P B ob e:=by
 obtain⟨rs,l,a,c⟩:=h;obtain⟨el,now,b,d,f⟩:=a.ex;exact⟨rs,l,⟨⟨el,now,b.spare g hk i,d,f⟩,a.len,a.runs⟩,c⟩
theorem AT.spare {R N:Nat}(h:AT qh w hb P B R D bd bn ob N e)(p:w.heap.size<=w'.heap.size)(b:∀j,j≠k->w'.heap[j]? =w.heap[j]?)(hk:w.heap[k]? =some (.cells cs t fr))(hn:RZ cs)(r:(t=3/\k=qh)\/(t=27/\(k<B\/ob≠some k)))(v:4<k):AT qh w' hb P B R D bd bn ob N e:=by
 have l:t=3\/t=27:=r.imp And.left And.left;obtain⟨a0,a1,a2,a3,a4⟩:=h.apart hk hn (by rcases l with rfl | rfl<;>decide) (by rcases l with rfl | rfl<;>decide);obtain⟨g,d,q,wl⟩:=h.ex;have m:=b P (Ne.symm a1);have gf:GF w w' P (fun _=>False) (fun x=>x=k):=⟨p,fun j _ _ s=>b j s,fun o _=>QEc (a:=⟨P,o,none⟩) m,fun o=>World.frozen?_of_block (a:=⟨P,o,none⟩) m⟩;refine⟨⟨g,d,⟨q.kp.spare gf hk r,q.log.at_ m,q.dk.Ak p (b D (Ne.symm a2)) (b bd (Ne.symm a3)) (b bn (Ne.symm a4)) (fun j c y f e' u=>b j (Zah e' hk ?_)),fun i hi=>(QEc (a:=⟨1,i,none⟩) (b 1 (by omega))).trans (q.nm i hi),q.Ix.at_ (b 2 (by omega)),q.ne⟩,wl⟩,h.host.at_ (b hb (Ne.symm a0)),(QEc (a:=⟨0,0,none⟩) (b 0 (by omega))).trans h.err,h.ne⟩;rcases u with rfl | rfl<;>rcases l with rfl | rfl<;>decide
theorem HH.put {i:Nat}(h:HH qh w wx hb D bd rk Z e)(hk:wx.heap[k]? =some (.cells cs t fr))(hn:RZ cs)(hw:w.heap.size<=k)(m:4<k)(r:(t=3/\k=qh)\/(t=27/\rk=some k))(q:IntKind)(x:Int):HH qh w (wx.setCell ⟨k,i,none⟩ (.int q x)) hb D bd rk Z e:=by
 obtain⟨P,B,R,bn,ob,N,d,l,f⟩:=h.ex;have a:∀j,j≠k->(wx.setCell ⟨k,i,none⟩ (.int q x)).heap[j]? =wx.heap[j]? :=fun j o=>Zl wx ⟨k,i,none⟩ _ j o;have p:wx.heap.size<=(wx.setCell ⟨k,i,none⟩ (.int q x)).heap.size:=by simp[World.setCell]
 refine⟨P,B,R,bn,ob,N,⟨d.host.spare p a hk hn (r.imp id (fun y=>⟨y.1,(f k y.2).GJ⟩)) m,d.Db.setCell hw _,d.GJ⟩,l,fun k' b=> ?_⟩;obtain⟨c2,f2,g,n2⟩:=(f k' b).Au;refine⟨?_,(f k' b).GJ⟩;by_cases c:k'=k
 .subst c
  refine⟨_,f2,Zab g _,fun t v y=> ?_⟩;rw[Array.getElem?_setIfInBounds] at y
  split at y
  .split at y<;>cases y
  .exact n2 t v y
 .exact⟨c2,f2,(a k' c).trans g,n2⟩
theorem AR.move {r:Aq}(h:AR qh w B r)(hb:ZY w w')(c:w.heap.size<=q):AR q w' B r:=by
 have a:=h.below hb;refine⟨a.top,a.bb,a.row,fun k hk=>⟨(a.DW k hk).1,fun x=> ?_⟩,a.some_,a.Br⟩;rcases (h.DW k hk).1.2 with⟨b,_⟩ | ⟨g,cap,cur,b,_,hh,_⟩
 .rw[x] at b;cases b
 .rw[x] at b
  simp only[Value.slice.injEq,QCf,Addr.mk.injEq] at b;have:=Zaa hh;omega
theorem BE.move (h:BE qh w P B ob e)(hb:ZY w w')(r:w.heap.size<=q)(d:q<w'.heap.size):BE q w' P B ob e:=by
 obtain⟨rs,l,f,m⟩:=h;obtain⟨el,now,j,o,p⟩:=f.ex;have b:=j.below hb;obtain⟨ka,s,g⟩:=j.kn;have a:=g.below hb;exact⟨rs,l,⟨⟨el,now,⟨⟨ka,s,a.c,a.fz,a.row,fun i hi=>(g.runs i hi).move hb r,a.bA,a.gA,a.pb,a.bs,a.Br⟩,b.en,b.qu,b.wh,b.lr,b.lt,b.sd,b.fz,d⟩,o,p⟩,f.len,f.runs⟩,m⟩
theorem OW.move {R N:Nat}(h:OW qh w wx hb P B R D bd bn ob N e)(b:ZY wx wy)(i:wx.heap.size<=q)(f:q<wy.heap.size):OW q w wy hb P B R D bd bn ob N e:=by
 have a:=h.below b;obtain⟨g,d,z,wl⟩:=h.host.ex;have c:=z.below b;exact⟨⟨⟨g,d,⟨z.kp.move b i f,c.log,c.dk,c.nm,c.Ix,c.ne⟩,wl⟩,a.host.host,a.host.err,a.host.ne⟩,a.Db,a.GJ⟩
open Go.RowKit
attribute [local go_sem ↓] Go.wp_at_zero Go.wp_at_succ
theorem HH.of_ow {R N:Nat}(h:OW qh w wx hb P B R D bd bn ob N e)(a:N<=Z):HH qh w wx hb D bd none Z e:=⟨P,B,R,bn,ob,N,h,a,fun k hk=>by cases hk⟩
theorem HH.Xn (h:HH qh w wx hb D bd none Z e)(b:ZY wx wy)(hk:wx.heap.size<=k)(u:wy.heap[k]? =some (.cells cs 27 fr))(hn:RZ cs)(s:wx.heap.size<=q)(j:q<wy.heap.size):HH q w wy hb D bd (some k) Z e:=by
 obtain⟨P,B,R,bn,ob,N,m,o,y⟩:=h.ex;refine⟨P,B,R,bn,ob,N,m.move b s j,o,fun k' i=> ?_⟩;obtain rfl:=Option.some.inj i;refine⟨⟨cs,fr,u,hn⟩,Zj fun x=> ?_⟩;obtain⟨g,d,q,_⟩:=m.host.ex;obtain⟨rs,l,v,_⟩:=q.kp;obtain⟨_,_,p,_⟩:=v.ex;obtain⟨a,n,c,f,z,he,r⟩:=p.en;have:=(he.row.lt k (r.trans x)).2;omega
theorem SQ {B0 d c L:Nat}{F:Ad}(h:HH qh w wx hb D bd rk Z e)(ok:Aj e)(AZ:Az e)(o:Z<=1000000000000)(a:BW F)(m:L=(Zat F).length)(p:Al B0 wx (.slice (some ⟨d,0,none⟩) L c) (Zat F)) :
  Calls prog 60 #[.pointer (some ⟨hb,0,none⟩),.slice (some ⟨d,0,none⟩) L c,.agg #[.int .i64 (-1),.int .i64 (-1),.int .i64 0,.int .i64 0]] wx fun x w'=>∃G n b,x=.returned (.tuple #[.int .u64 n,.int .i64 b,.int .i64 (-1)])/\(BW G/\G.dl=F.dl/\G.n=F.n/\Ci F G F.n)/\b=CO 5 (e.AM G)/\n=(if b=0 then e.Ah+1 else 0)/\HH qh w w' hb D bd rk (Z+1000000) ((e.AM G).getD e)/\Ex wx w' rk:=by
 obtain⟨P,B,R,bn,ob,N,g,i,j⟩:=h.ex;have l:1<=(Zat F).length:=by have:=Ef (F:=F) a.top.n1;omega
 have H:=LD a.top a.nat;subst m;refine (IK wx hb P B R D bd bn N B0 d c ob e (Zat F) g.host ok AZ (Zv i o) p (JO F) l (by omega)).mono ?_;rintro x w' ⟨r,n,b,at_,e',rfl,q1,s,u,v⟩;rcases q1 with⟨f,z2,_⟩ | ⟨y,f,rfl,rfl,rfl,rfl⟩
 .exact absurd (MA a z2).1 f
 .obtain⟨_,r2,z,A,C,E⟩:=MA a f
  exact⟨_,_,_,rfl,⟨z,A,C,E⟩,rfl,rfl,HH.call (Z:=Z) g j s v u (by omega)⟩
def waC (hb:Nat)(dl:Int)(la:Option Addr)(n lc:Nat)(tv:Value)(rk tb:Nat)(ir is:Int)(iv jv:Value):Array Value:=#[.pointer (some ⟨hb,0,none⟩),.int .i64 dl,.slice la n lc,.int .u64 2,tv,.slice (some ⟨rk,0,none⟩) n n,.slice (some ⟨tb,0,none⟩) n n,.int .u64 ir,.int .i64 is,iv,jv]
structure StrS (w w':World)(ub hb D bd rk tb:Nat)(F:Ad)(la:Option Addr)(lc:Nat):Prop where
 Au:w'.heap[ub]? =some (.cells (waC hb F.dl la F.n lc (.slice none 0 0) rk tb 0 0 (.slice none 0 0) (.slice none 0 0)) 77 (0,0))
 GJ:w.heap.size<=ub/\w.heap.size<=rk/\w.heap.size<=tb
 rr:w'.rowIs rk 27 F.n (fun _=> .int .u64 0)
 tr:w'.rowIs tb 3 F.n (fun _=> .int .i64 0)
theorem infoU:(prog.info? 27).map (fun i=>(i.zero,i.size,i.bytes))=some (some (.int .u64 0),1,8):=by kernel_rfl
theorem infoI:(prog.info? 3).map (fun i=>(i.zero,i.size,i.bytes))=some (some (.int .i64 0),1,8):=by kernel_rfl
theorem WU {b a:World}{ub rk tb lc:Nat}{dl:Int}{F G:Ad}(h:HH qh w b hb D bd none 13000000 e)(r:EG e G)(p:G.dl=F.dl/\G.n=F.n/\Ci F G F.n)(i:1<=F.n)(hn:n=F.n)(g:dl=F.dl)(d:ZY b a)(m:b.heap.size<=rk)(o:b.heap.size<=tb)(u:b.heap.size<=ub)(r1:a.rowIs rk 27 n (fun _=> .int .u64 0))(r2:a.rowIs tb 3 n (fun _=> .int .i64 0))
  (hu:a.heap[ub]? =some (.cells #[.pointer (some ⟨hb,0,none⟩),.int .i64 dl,.slice la n lc,.int .u64 2,.slice none 0 0,.slice (some ⟨rk,0,none⟩) n n,.slice (some ⟨tb,0,none⟩) n n,.int .u64 0,.int .i64 0,.slice none 0 0,.slice none 0 0] 77 (0,0))):HH tb w a hb D bd (some rk) 13000000 e/\EG e G/\(G.dl=dl/\G.n=n/\Ci F G n)/\StrS w a ub hb D bd rk tb F la lc:=by
 subst hn g;obtain⟨c,j,f,l⟩:=r1;have s:=h.Db.size;exact⟨h.Xn d m j (fun t v x=>by rw[l 0 i] at x;cases x) o r2.lt,r,p,hu,by omega,⟨c,j,f,l⟩,r2⟩
theorem Qj (w:World)(B0:Nat)(F:Ad)(la:Option Addr)(lc:Nat)(Na:Nat->Option Addr)(Nc:Nat->Nat)(u:An B0 w F (.slice la F.n lc) F.n Na Nc)(hw:Gx F F.n)(K:1<=F.n)(U:F.n<=12)(he:Ay w)(ax:Za4 w)(ht:AP w)(hg:4<w.heap.size)(d:2<w.heap.size)(ar:0<w.heap.size) :
  Calls prog 19 #[GL F.dl (.slice la F.n lc)] w fun x w'=>∃ub hb D bd rk tb e G,x=.returned (.pointer (some ⟨ub,0,none⟩))/\HH tb w w' hb D bd (some rk) 13000000 e/\EG e G/\(G.dl=F.dl/\G.n=F.n/\Ci F G F.n)/\StrS w w' ub hb D bd rk tb F la lc:=by
 obtain⟨fb,W⟩:∃fb,fb=w.heap.size:=⟨_,rfl⟩;obtain⟨w1,H⟩:∃w1,w1=w.alloc (.cells #[.int .i64 F.dl,.slice la F.n lc] 61):=⟨_,rfl⟩;have b:ZY w w1:=by rw[H];exact ZV.alloc ZU _
 have al:w1.heap[fb]? =some (.cells #[.int .i64 F.dl,.slice la F.n lc] 61 (0,0)):=by rw[H,W];exact QFm w _
 have ae:=Zz (Qz (qh:=4) w1 (he.Ak b) (fun i hi=>QFa b (ax i hi)) (ht.Ak d b) (Zy hg b.size) (Zy d b.size) (Zy ar b.size) (Zy hg b.size));have HW:=Zz (fun wx=>Ir wx);unfold Zbd at HW;have HF:=Zz (Zq u (Zq hw (Zq K (Zq U (Zq ht d)))));have T:=Zz (Zq H (Zq W (Zq b al)));obtain⟨n,hn⟩:∃n,n=F.n:=⟨_,rfl⟩;obtain⟨dl,V⟩:∃dl,dl=F.dl:=⟨_,rfl⟩;have p:=Zz (Zq hn V);have bh:n<=12:=by omega
 unfold GL;rw[<-hn,<-V];clear u hw K U he ax ht hg d ar H W b al hn V
 go_enter func19,ntmps19
 go_upto_region 1 with fail
 rw[p.o.1,p.o.2,<-T.o.2.1,<-T.o.1,<-p.o.1,<-p.o.2]
 go_upto_region 2 with (go_at_call 58;refine ae.o.mono ?_;rintro _ w2 ⟨hb,P,B,R,D,bd,bn,ob,f,rfl,q1,Y⟩;have Q:=Zz (Zq q1 Y);clear q1 Y)
 have r:ZY w w2:=T.o.2.2.1.trans (Q.o.1.Db.mono T.o.2.2.1.size);have z:=(Q.o.1.Db.block fb (Zaa T.o.2.2.2)).trans T.o.2.2.2;rw[<-p.o.1,<-p.o.2] at z;have z0:=Zad z 0;have z1:=Zad z 1
 have J:=Zz (show Calls prog 59 #[.agg #[.int .i64 dl,.slice la n lc]] w2 fun x w'=>∃bg c L,x=.returned (.tuple #[.slice (some ⟨bg,0,none⟩) L c,.int .i64 0,.int .i64 (-1)])/\L=(Zat F).length/\Al w2.heap.size w' (.slice (some ⟨bg,0,none⟩) L c) (Zat F)/\ZY w2 w' from by
  obtain⟨u,hw,K,U,ht,d⟩:=HF.o;have az:=(u.flowIn (by omega) (fun i hi=>by have:=hw.an K U i hi;omega) ht d).Ak r;rw[p.o.1,p.o.2];refine (IZ F la lc Na Nc w2 az Q.o.1.host.err).mono ?_;rintro e w3 ⟨⟨v,x,y,l,rfl,aj,O,bf,bj⟩,A⟩;obtain⟨rfl,rfl⟩:=aj.one (hw.chk K U);obtain rfl:=bf rfl;have h9:1<=(Zat F).length:=by have:=Ef (F:=F) K;omega
  rcases O.2 with⟨_,x2⟩ | ⟨g,cap,cur,rfl,_⟩
  .omega
  .exact⟨g,cap,_,rfl,rfl,O,A⟩)
 have S:=Zz (Zq r z);clear r z
 go_upto_region 5 with (go_at_call 59;refine J.o.mono ?_;rintro _ w3 ⟨bg,bc,L,rfl,hL,C,A⟩;have H3:=Zz (Zq hL (Zq C A));clear hL C A)
 clear z0 z1
 have ag:=Zz (show ∀w4,ZY w3 w4->Calls prog 60 #[.pointer (some ⟨hb,0,none⟩),.slice (some ⟨bg,0,none⟩) L bc,.agg #[.int .i64 (-1),.int .i64 (-1),.int .i64 0,.int .i64 0]] w4 fun x w'=>∃e G,x=.returned (.tuple #[.int .u64 2,.int .i64 0,.int .i64 (-1)])/\HH 4 w w' hb D bd none 13000000 e/\EG e G/\(G.dl=F.dl/\G.n=F.n/\Ci F G F.n)/\w'.heap[fb]? =some (.cells #[.int .i64 dl,.slice la n lc] 61 (0,0)) from fun w4 s=>by
  obtain⟨u,hw,K,U,ht,d⟩:=HF.o;have E:=hw.ok K U;have ay:BW F:=⟨E.1,fun j hj=>(E.2.1 j hj).1,fun j hj=>(E.2.1 j hj).2,E.2.2⟩;have M:=H3.o.2.2.trans (s.mono H3.o.2.2.size);have hH:HH 4 w w4 hb D bd none 11000000 (o8 f):=HH.of_ow (P:=P) (B:=B) (R:=R) (bn:=bn) (ob:=ob) ((show OW 4 w w2 hb P B R D bd bn ob 11000000 (o8 f) from⟨Q.o.1.host,S.o.1,by obtain⟨⟨f1,f2,f3,f4,f5⟩,f6,f7⟩:=Q.o.1.GJ;have:=T.o.2.2.1.size;omega⟩).below M) ZU;have N:=(M.block fb (Zaa S.o.2)).trans S.o.2
  have C:Al w2.heap.size w4 (.slice (some ⟨bg,0,none⟩) L bc) (Zat F):=by
   have:=H3.o.2.1.below s;exact this
  refine (SQ hH Q.o.2.k8 (Dl (by show (1:Int)<=100;decide) (by show (3:Int)<=1000000;decide) rfl) (by omega) ay H3.o.1 C).mono ?_;rintro x w' ⟨G,m,er,rfl,⟨g1,g2,g3,g4⟩,rfl,rfl,q1,Y⟩;obtain⟨e,s1,s2⟩:=TC Q.o.2 g1;rw[s1] at q1 ⊢;exact⟨e,G,rfl,q1.mono (by omega),s2,⟨g2,g3,g4⟩,(Y.block fb _ _ _ N (fun t v x=>by cases x) (by decide)).trans N⟩)
 clear J ae
 go_upto_region 6 with (first
  | (go_at_call 13;refine (HW.o _).mono ?_;rintro _ w4 ⟨rfl,s⟩;have H4:=Zz s;clear s)
  | (go_at_call 60;refine (ag.o w4 H4.o).mono ?_;rintro _ a ⟨e,G,rfl,q1,Y,q3,q4⟩;have I:=Zz (Zq q1 (Zq Y (Zq q3 q4)));clear q1 Y q3 q4))
 have z0:=Zad I.o.2.2.2 0;have z1:=Zad I.o.2.2.2 1;have au:=QKf (P:=prog) 75 27 (.int .u64 0) 8 underlying75 infoU rfl .i64 .i64 n (by omega) (by omega);have aw:=QKf (P:=prog) 24 3 (.int .i64 0) 8 underlying24 infoI rfl .i64 .i64 n (by omega) (by omega);have y0:∀o,(a.alloc o).cell? ⟨fb,0,none⟩=some (.int .i64 dl):=fun o=>QFa (ZV.alloc ZU o) z0;have y1:∀o,(a.alloc o).cell? ⟨fb,1,none⟩=some (.slice la n lc):=fun o=>QFa (ZV.alloc ZU o) z1;have x0:∀o X,((a.alloc o).alloc X).cell? ⟨fb,0,none⟩=some (.int .i64 dl):=fun o X=>QFa ((ZV.alloc ZU o).alloc (by simp) X) z0
 have x1:∀o X,((a.alloc o).alloc X).cell? ⟨fb,1,none⟩=some (.slice la n lc):=fun o X=>QFa ((ZV.alloc ZU o).alloc (by simp) X) z1
 clear ag
 go_upto_region 8 with fail
 go_region
 all_goals clear x0 x1 y0 y1 z0 z1 au aw
 all_goals go_wp2_with fail
 all_goals go_ret
 .refine⟨a.heap.size+1+1,hb,D,bd,a.heap.size,a.heap.size+1,e,G,rfl,?_⟩
  refine WU (rk:=a.heap.size) (tb:=a.heap.size+1) (ub:=a.heap.size+1+1) I.o.1 I.o.2.1 I.o.2.2.1 HF.o.2.2.1 p.o.1 p.o.2 (((ZV.alloc ZU _).alloc (by simp) _).alloc (by simp;omega) _).drew ZU (by omega) (by omega) (((QKg a _ n _).alloc _).alloc _).drew ?_ ?_
  .have:=QKg (a.alloc (.cells (QGu #[.int .u64 0] n) 27)) (.int .i64 0) n 3
   rw[QKh] at this;exact (this.alloc _).drew
  .have:=QFm ((a.alloc (.cells (QGu #[.int .u64 0] n) 27)).alloc (.cells (QGu #[.int .i64 0] n) 3)) (.cells #[.pointer (some ⟨hb,0,none⟩),.int .i64 dl,.slice la n lc,.int .u64 2,.slice none 0 0,.slice (some ⟨a.heap.size,0,none⟩) n n,.slice (some ⟨a.heap.size+1,0,none⟩) n n,.int .u64 0,.int .i64 0,.slice none 0 0,.slice none 0 0] 77)
   rw[QKh,QKh] at this;exact this
 .refine⟨a.heap.size+1+1,hb,D,bd,a.heap.size+1,a.heap.size,e,G,rfl,?_⟩
  refine WU (rk:=a.heap.size+1) (tb:=a.heap.size) (ub:=a.heap.size+1+1) I.o.1 I.o.2.1 I.o.2.2.1 HF.o.2.2.1 p.o.1 p.o.2 (((ZV.alloc ZU _).alloc (by simp) _).alloc (by simp;omega) _).drew (by omega) ZU (by omega) ?_ (((QKg a _ n _).alloc _).alloc _).drew ?_
  .have:=QKg (a.alloc (.cells (QGu #[.int .i64 0] n) 3)) (.int .u64 0) n 27
   rw[QKh] at this;exact (this.alloc _).drew
  .have:=QFm ((a.alloc (.cells (QGu #[.int .i64 0] n) 3)).alloc (.cells (QGu #[.int .u64 0] n) 27)) (.cells #[.pointer (some ⟨hb,0,none⟩),.int .i64 dl,.slice la n lc,.int .u64 2,.slice none 0 0,.slice (some ⟨a.heap.size+1,0,none⟩) n n,.slice (some ⟨a.heap.size,0,none⟩) n n,.int .u64 0,.int .i64 0,.slice none 0 0,.slice none 0 0] 77)
   rw[QKh,QKh] at this;exact this
