import Derived.Test.YtgdcjccbdmcebaaGreatDoorM11
import Derived.Test.YtgdcjccbdmcebaaGreatDoorM27
set_option linter.unusedSimpArgs false
set_option linter.unusedVariables false
set_option maxHeartbeats 8000000
set_option maxRecDepth 100000
namespace Go.Proofs.YtgdcjccbdmcebaaGreatDoor
open Tryz
open Go.RowKit
variable {a:Option Addr}{ob:Option Nat}{r:Aq}{ks:List Nat}{rs:List Aq}{w' w:World}{d:Ag}{k P B i c:Nat}{e:Ab}{l:List Tm}{el:List Int}
structure KF (w w':World)(P B:Nat)(ob:Option Nat):Prop where
 os:w'.os=w.os
 tape:w'.tape=w.tape
 output:w'.output=w.output
 size:w.heap.size<=w'.heap.size
 block:∀k,k<w.heap.size->k≠P->(k<B\/∃cs t fr,w.heap[k]? =some (.cells cs t fr)/\t≠288/\t≠274/\t≠266/\t≠272/\t≠276/\(t=27->some k≠ob))->w'.heap[k]? =w.heap[k]?
 off:P<w.heap.size->∀o,o<4->w'.cell? ⟨P,o,none⟩=w.cell? ⟨P,o,none⟩
 AE:P<w.heap.size->∀o,w'.frozen? ⟨P,o,none⟩=w.frozen? ⟨P,o,none⟩
def As (w:World)(ob ob':Option Nat):Prop:=∀k,ob'=some k->ob=some k\/w.heap.size<=k
theorem As.refl (w:World)(ob:Option Nat):As w ob ob:=fun _ h=>Zu h
theorem As.trans {x y:World}{a b c:Option Nat}(h:As x a b)(g:As y b c)(m:x.heap.size<=y.heap.size):As x a c:=fun k j=>by
 rcases g k j with f | f
 ·exact h k f
 ·exact Zj (Zv m f)
theorem KF.refl (w:World)(P B:Nat)(ob:Option Nat):KF w w P B ob:=⟨rfl,rfl,rfl,Zx _,fun _ _ _ _=>rfl,fun _ _ _=>rfl,fun _ _=>rfl⟩
theorem KF.Ae (P B:Nat)(ob:Option Nat)(h:Below w.heap.size w w'):KF w w' P B ob:=⟨h.os,h.tape,h.output,h.size,fun k f _ _=>h.block k f,fun b o _=>World.cell?_of_block (a:=⟨P,o,none⟩) (h.block P b),fun b o=>World.frozen?_of_block (a:=⟨P,o,none⟩) (h.block P b)⟩
theorem KF.trans {x y z:World}{f:Option Nat}(h:KF x y P B ob)(g:KF y z P B f)(E:As x ob f):KF x z P B ob:=by
 refine⟨g.os.trans h.os,g.tape.trans h.tape,g.output.trans h.output,Zv h.size g.size,fun k p b j=> ?_,fun b o hl=>(g.off (Zy b h.size) o hl).trans (h.off b o hl),fun b o=>(g.AE (Zy b h.size) o).trans (h.AE b o)⟩;have e:=h.block k p b j;refine (g.block k (Zy p h.size) b ?_).trans e;rcases j with j | ⟨cs,t,fr,q,s,u,v,A,C,D⟩
 ·exact Zu j
 ·refine Zj ⟨cs,t,fr,e.trans q,s,u,v,A,C,fun F m=> ?_⟩
  rcases E k m.symm with n | n
  ·exact D F n.symm
  ·omega
theorem KF.DN (h:PF w w' P B Ck)(ob:Option Nat):KF w w' P B ob :=
 ⟨h.os,h.tape,h.output,h.size,fun k m b f=>h.block k m b (by
  rcases f with f | ⟨cs,t,fr,g,j,_⟩
  ·exact Zu (Zu f)
  ·exact Zj ⟨cs,t,fr,g,j⟩),fun b o n=>h.off b o (Zu (by omega)),h.AE⟩
theorem KF.QD {n first:Nat}{u xs:List AZ}(s:FV w P B a n c first u xs)(h:RF w w' P (Value.slice a n c).ownBlock 8 11)(ob:Option Nat):KF w w' P B ob:=by
 refine⟨h.os,h.tape,h.output,h.size,fun k q j m=>h.block k q j (fun b=> ?_),fun j o x=>h.off j o (Zu (by omega)),h.AE⟩;rcases s.row.2 with⟨g,_⟩ | ⟨v,cap,cur,g,hg,hh,_⟩
 ·rw[g] at b;simp[Value.ownBlock] at b
 ·rw[g] at b
  simp only[Value.ownBlock,Option.some.injEq] at b;subst b;rcases m with m | ⟨cs,t,fr,f,_,p,_⟩
  ·omega
  ·rw[hh] at f
   simp only[Option.some.injEq,Obj.cells.injEq] at f;exact p f.2.1.symm
theorem KF.Wp {n first:Nat}{v xs:List Int}(u:Gw w P B a n c first v xs)(h:RF w w' P (Value.slice a n c).ownBlock 5 8):KF w w' P B (Value.slice a n c).ownBlock:=by
 refine⟨h.os,h.tape,h.output,h.size,fun k s j p=>h.block k s j (fun b=> ?_),fun j o y=>h.off j o (Zu (by omega)),h.AE⟩;have m:=b;rcases u.row.2 with⟨g,_⟩ | ⟨x,cap,cur,g,hg,hh,_⟩
 ·rw[g] at b;simp[Value.ownBlock] at b
 ·rw[g] at b
  simp only[Value.ownBlock,Option.some.injEq] at b;subst b;rcases p with p | ⟨cs,t,fr,f,_,_,_,_,_,q⟩
  ·omega
  ·rw[hh] at f
   simp only[Option.some.injEq,Obj.cells.injEq] at f;exact q f.2.1.symm m
theorem KF.IT (p:AW w B r)(h:Du w w' r.b r.ng)(m:P<B):KF w w' P B ob:=by
 obtain⟨y,q,_,_,v,_⟩:=p.Bi;have g:P≠r.b:=by have:=p.bb;omega
 have j:P≠r.ng:=by omega
 refine⟨h.os,h.tape,h.output,h.size,fun k x _ n=>h.block k x (fun e=> ?_) (fun e=> ?_),fun m o _=>World.cell?_of_block (a:=⟨P,o,none⟩) (h.block P m g j),fun m o=>World.frozen?_of_block (a:=⟨P,o,none⟩) (h.block P m g j)⟩
 ·subst e
  rcases n with n | ⟨cs,t,fr,f,_,_,_,s,_⟩
  ·have:=p.bb;omega
  ·rw[p.top] at f
   simp only[Option.some.injEq,Obj.cells.injEq] at f;exact s f.2.1.symm
 ·subst e
  rcases n with n | ⟨cs,t,fr,f,_,_,_,_,u,_⟩
  ·omega
  ·rw[q] at f
   simp only[Option.some.injEq,Obj.cells.injEq] at f;exact u f.2.1.symm
theorem KF.Bt (w:World)(P B o:Nat)(ob:Option Nat)(v:Value)(h:4<=o):KF w (w.setCell ⟨P,o,none⟩ v) P B ob :=
 ⟨rfl,rfl,rfl,by simp[World.setCell],fun k _ f _=>Zl w ⟨P,o,none⟩ v k f,fun _ b g=>Zac w P o b v (by omega),fun _ b=>by rw[World.frozen?_setCell]⟩
structure PB (F:Ad)(k:Nat)(s:AM)(n:Cl):Prop where
 tok:n.tok=s.tok
 bu:n.bu=F.bu k
 cl:n.cl=F.cl k
 be:n.be=F.be k
 ba:n.ba=F.ba k
 ca:n.ca=F.ca k
 ji:n.ji=F.ji k
 af:n.af=(List.range (F.an k)).map (F.af k)
structure NdGone (n:Cl):Prop where
 tok:n.tok=0
 bu:n.bu=0
 cl:n.cl=0
 be:n.be=0
 ba:n.ba=0
 ca:n.ca=0
 ji:n.ji=0
 af:n.af=[]
structure Br (r:Aq)(d:Ag):Prop where
 id:r.id=d.id
 st:r.st=d.st
 len:r.ns.length=d.steps.length
 nd:∀k,k<d.steps.length->(r.at_ k).st=(d.at_ k).st/\(r.at_ k).tries=(d.at_ k).tries
 live:d.st=1->∀k,k<d.steps.length->PB d.fl k (d.at_ k) (r.at_ k)
 over:d.st≠1->∀k,k<d.steps.length->NdGone (r.at_ k)
def Gx (el:List Int)(e:Ab):Prop:=∃is:List Nat,el=is.map (fun i=>(e.at_ i).id)/\(∀i,i∈is↔i<e.runs.length/\0<(e.at_ i).ended)/\is.Pairwise (fun i j=>(e.at_ i).ended<(e.at_ j).ended)
structure Cj (w:World)(P B:Nat)(ob:Option Nat)(e:Ab)(rs:List Aq)(l:List Tm):Prop where
 ex:∃el now,Er w P B ob rs el e.queue now l e.Ah e.Ai e.At/\e.time=((now:Nat):Int)/\Gx el e
 len:rs.length=e.runs.length
 runs:∀i,i<e.runs.length->Br (Am rs i) (e.at_ i)
def BY (w:World)(P B:Nat)(ob:Option Nat)(e:Ab):Prop:=∃rs l,Cj w P B ob e rs l/\Be e l
def BS (rs rs':List Aq):Prop:=rs'.length=rs.length/\∀j,j<rs.length->(Am rs' j).b=(Am rs j).b
theorem BS.refl (rs:List Aq):BS rs rs:=⟨rfl,fun _ _=>rfl⟩
theorem BS.trans {a b c:List Aq}(h:BS a b)(g:BS b c):BS a c:=⟨g.1.trans h.1,fun j f=>(g.2 j (by rw[h.1];exact f)).trans (h.2 j f)⟩
theorem Cj.below (h:Cj w P B ob e rs l)(j:Below w.heap.size w w'):Cj w' P B ob e rs l:=by
 obtain⟨el,now,b,f,g⟩:=h.ex;exact⟨⟨el,now,b.below j,f,g⟩,h.len,h.runs⟩
theorem BY.below (h:BY w P B ob e)(g:Below w.heap.size w w'):BY w' P B ob e:=by
 obtain⟨rs,l,b,f⟩:=h;exact⟨rs,l,b.below g,f⟩
open Go.RowKit
theorem Br.step (h:Br r d)(b:d.st=1)(n:k<d.steps.length){f:Cl->Cl}{g:AM->AM}(p:(f (r.at_ k)).st=(g (d.at_ k)).st)(q:(f (r.at_ k)).tries=(g (d.at_ k)).tries)(hn:PB d.fl k (g (d.at_ k)) (f (r.at_ k))):Br (r.BE k f) (d.Af k g):=by
 have o:k<r.ns.length:=by rw[h.len];exact n
 refine⟨h.id,h.st,by rw[Aq.AU,Zal];exact h.len,fun m hm=> ?_,fun _ m hm=> ?_,fun j=>absurd b j⟩
 ·rw[Zal] at hm
  rw[Aq.Ca _ _ _ _ (by rw[h.len];exact hm),Zee _ _ _ _ hm];by_cases e:k=m
  ·subst e;rw[if_pos rfl,if_pos rfl];exact⟨p,q⟩
  ·rw[if_neg e,if_neg e];exact h.nd m hm
 ·rw[Zal] at hm
  rw[Aq.Ca _ _ _ _ (by rw[h.len];exact hm),Zee _ _ _ _ hm,Fv];by_cases e:k=m
  ·subst e;rw[if_pos rfl,if_pos rfl];exact hn
  ·rw[if_neg e,if_neg e];exact h.live b m hm
theorem PB.st {F:Ad}{s:AM}{n:Cl}(h:PB F k s n)(x y:Int):PB F k { s with st:=x } { n with st:=y }:=⟨h.tok,h.bu,h.cl,h.be,h.ba,h.ca,h.ji,h.af⟩
theorem Br.Mg (h:Br r d)(f:d.st=1)(b:k<d.steps.length)(v:Int):Br (r.BE k (fun n=>{ n with st:=v })) (d.Af k (fun s=>{ s with st:=v })) :=
 h.step f b rfl (h.nd k b).2 ((h.live f k b).st v v)
theorem Br.ended (h:Br r d)(st ends:Int)(j:st≠1):Br (r.ended st) (Zd2 st ends d):=by
 have hl:(r.ended st).ns.length=r.ns.length:=by unfold Aq.ended;simp
 have f:∀k,k<r.ns.length->(r.ended st).at_ k=(r.at_ k).over:=by
  intro k b;have:=Aq.GH (r:=r) (st:=st) (k:=r.ns.length) b;rw[Aq.Ly,if_pos b] at this;exact this
 refine⟨h.id,rfl,by rw[hl,Zbe];exact h.len,fun k b=> ?_,fun g=>absurd g j,fun _ k b=> ?_⟩
 ·rw[Zbe] at b
  rw[f k (by rw[h.len];exact b),Zb8 st ends d b];obtain⟨m,g⟩:=h.nd k b;unfold Cl.over Kt DE;simp only[m]
  split<;>exact⟨rfl,g⟩
 ·rw[Zbe] at b
  rw[f k (by rw[h.len];exact b)];exact⟨rfl,rfl,rfl,rfl,rfl,rfl,rfl,rfl⟩
theorem Br.within (h:Br r d)(m:d.st=1)(hf:BQ d.fl)(hl:d.steps.length=d.fl.n):r.within:=by
 intro k s;have f:k<d.steps.length:=by rw[<-h.len];exact s
 have o:=(h.live m k f).af;have he:=hf.SA k (by omega)
 have t:∀a,a<d.fl.an k->(a:Int)<=d.fl.af k a:=by
  intro a
  induction a with
  | zero=>intro b;have:=(he 0 b).1;omega
  | succ a v=>intro b;have:=v (by omega);have:=(he (a+1) b).2.2 (by omega);simp only[Nat.add_sub_cancel] at this;omega
 have g:=hf.top.n2
 have p:d.fl.an k<=12:=by
  rcases Nat.lt_or_ge (d.fl.an k) 13 with u | u
  ·omega
  ·have:=t 12 (by omega)
   have:=(he 12 (by omega)).2.1;omega
 rw[o];refine⟨by simp;omega,fun a hm=> ?_⟩;obtain⟨j,q,rfl⟩:=List.mem_map.1 hm;have:=he j (List.mem_range.1 q);exact⟨this.1,by have:=this.2.1;have:=h.len;omega⟩
theorem Br.Ro {r:Aq}(hl:d.steps.length=d.fl.n)(hf:BQ d.fl)(f:k<d.steps.length){j:Nat}(b:j<d.fl.an k):(d.fl.af k j).toNat<d.steps.length:=by
 have h:=hf.SA k (by omega) j b;have:=h.1;have:=h.2.1;omega
theorem Br.free (h:Br r d)(o:d.st=1)(hf:BQ d.fl)(hl:d.steps.length=d.fl.n)(m:k<d.steps.length):r.free k=d.free k:=by
 unfold Aq.free Ag.free;rw[(h.nd k m).1,(h.live o k m).af,List.all_map]
 congr 1
 rw[Bool.eq_iff_iff,List.all_eq_true,List.all_eq_true];constructor
 ·intro g j f
  have:=g j f;have b:=Br.Ro (r:=r) hl hf m (List.mem_range.1 f);simp only[Function.comp] at this;rw[(h.nd _ b).1] at this;exact this
 ·intro g j f
  have:=g j f;have b:=Br.Ro (r:=r) hl hf m (List.mem_range.1 f);simp only[Function.comp];rw[(h.nd _ b).1];exact this
theorem Br.awake (h:Br r d)(b:d.st=1)(hf:BQ d.fl)(hl:d.steps.length=d.fl.n):r.awake=(List.range d.steps.length).filter d.free:=by
 unfold Aq.awake Aq.DJ;rw[h.len];exact List.filter_congr (fun k f=>h.free b hf hl (List.mem_range.1 f))
theorem Br.lost (h:Br r d)(o:d.st=1)(hf:BQ d.fl)(hl:d.steps.length=d.fl.n)(m:k<d.steps.length):r.lost k=d.lost k:=by
 unfold Aq.lost Ag.lost Aq.JM;rw[(h.nd k m).1,(h.live o k m).af,List.any_map]
 congr 1
 rw[Bool.eq_iff_iff,List.any_eq_true,List.any_eq_true];constructor
 ·rintro⟨j,f,g⟩
  have b:=Br.Ro (r:=r) hl hf m (List.mem_range.1 f);simp only[Function.comp] at g;rw[(h.nd _ b).1] at g;exact⟨j,f,g⟩
 ·rintro⟨j,f,g⟩
  have b:=Br.Ro (r:=r) hl hf m (List.mem_range.1 f);refine⟨j,f,?_⟩;simp only[Function.comp];rw[(h.nd _ b).1];exact g
theorem Es.snoc {a b:Ag}(h:Es a b)(f:k<b.steps.length)(hl:b.lost k=true):Es a (b.Af k JC):=h.trans (.step b _ k f hl (.refl _))
theorem Uh.is {r2:Aq}(p:Uh r r2)(h:Br r d)(m:d.st=1)(hf:BQ d.fl)(hl:d.steps.length=d.fl.n):∃d2,Es d d2/\Br r2 d2:=by
 induction p with
 | refl=>exact⟨d, .refl d,h⟩
 | step r2 k _ o j q =>
  obtain⟨d2,g,hi⟩:=q;have b:=g.same;have hlen:=g.len;have f:k<d2.steps.length:=by rw[<-hi.len];exact o
  have e:=hi.lost (by rw[b.2.2.1];exact m) (by rw[b.2.1];exact hf) (by rw[hlen,b.2.1];exact hl) f;rw[j] at e;exact⟨d2.Af k JC,g.snoc f e.symm,hi.Mg (by rw[b.2.2.1];exact m) f 7⟩
theorem Aq.shut.is {r2:Aq}{d2:Ag}(g:r2.shut)(h:Br r2 d2)(f:d2.st=1)(hf:BQ d2.fl)(hl:d2.steps.length=d2.fl.n):Shut d2:=by
 intro k b;rw[<-h.lost f hf hl b];exact g k (by rw[h.len];exact b)
def outI:Option Int->Int
 | none=>1
 | some st=>st
theorem ns_all {p:Cl->Bool}:r.ns.all p=true↔∀k,k<r.ns.length->p (r.at_ k)=true:=by
 rw[List.all_eq_true];constructor
 ·intro h k b
  exact h _ (Zbw (z:=Cl.z) b)
 ·intro h x f
  obtain⟨k,b,e⟩:=Zb6 (z:=Cl.z) f;have:=h k b;unfold Aq.at_ at this;rw[e] at this;exact this
theorem Br.outcome (h:Br r d):r.Wu=outI d.outcome:=by
 have j:∀p:Int->Bool,r.ns.all (fun n=>p n.st)=d.steps.all (fun s=>p s.st):=by
  intro p;rw[Bool.eq_iff_iff,ns_all,Ms,h.len];constructor
  ·intro g k f;have:=g k f;rw[(h.nd k f).1] at this;exact this
  ·intro g k f;have:=g k f;rw[(h.nd k f).1];exact this
 unfold Aq.Wu Ag.outcome;have a:=j (fun x=>x == 5||x == 6||x == 7);have b:=j (fun x=>x == 5);rw[a,b]
 split
 ·rfl
 ·rfl
theorem Hs.task {tok:Int}{o:Option (Nat×Nat)}(h:Hs rs tok o)(hl:rs.length=e.runs.length)(hi:∀i,i<e.runs.length->Br (Am rs i) (e.at_ i))(wk:Ao e):e.task tok=o:=by
 have key:∀i k,i<e.runs.length->k<(e.at_ i).steps.length->(((Am rs i).at_ k).Ji tok↔((e.at_ i).at_ k).st=3/\((e.at_ i).at_ k).tok=tok):=by
  intro i k g f;unfold Cl.Ji;rw[((hi i g).nd k f).1];by_cases p:((e.at_ i).at_ k).st=3
  ·have t:=wk.Bh g f (by omega)
   rw[((hi i g).live t k f).tok]
  ·constructor<;>(intro q;exact absurd q.1 p)
 cases h with
 | no hn =>
  refine ZS (fun i g=>Si (fun k f=> ?_));rw[<-key i k g f];exact hn i k (by omega) (by rw[(hi i g).len];exact f)
 | at_ i k g f p q u =>
  have b:i<e.runs.length:=by omega
  have n:k<(e.at_ i).steps.length:=by rw[<-(hi i b).len];exact f
  refine ZR b (work_at n ((key i k b n).1 p) (fun j s=> ?_)) (fun j s=>Si (fun m hm=> ?_))
  ·rw[<-key i j b (by omega)];exact q j s
  ·rw[<-key j m (by omega) hm]
   exact u j m s (by rw[(hi j (by omega)).len];exact hm)
theorem JO {id:Int}(hl:rs.length=e.runs.length)(hi:∀i,i<e.runs.length->Br (Am rs i) (e.at_ i)):JN rs id=e.find id:=by
 have g:∀j (f:j<e.runs.length),e.at_ j=e.runs[j]:=fun j f=>by unfold Ab.at_;rw[ZQ,ZZ f];rfl
 cases h:e.find id with
 | none =>
  unfold Ab.find at h;rw[List.findIdx?_eq_none_iff] at h;refine JP (fun j f=> ?_);have b:j<e.runs.length:=by omega
  have:=h (e.at_ j) (by rw[g j b];exact List.getElem_mem b);rw[(hi j b).id];simpa using this
 | some i =>
  unfold Ab.find at h;rw[List.findIdx?_eq_some_iff_getElem] at h;obtain⟨m,n,o⟩:=h;refine Gh (by omega) ?_ (fun j f=> ?_)
  ·rw[(hi i m).id,g i m];simpa using n
  ·have:=o j f
   rw[(hi j (by omega)).id,g j (by omega)];simpa using this
theorem Zdg {j:Nat}(hi:i<rs.length)(b:j<rs.length):Am (rs.set i r) j=if i=j then r else Am rs j:=by
 unfold Am;rw[ZQ,ZQ,List.getElem?_set];by_cases e:i=j
 ·subst e;rw[if_pos rfl,if_pos hi,if_pos rfl];rfl
 ·rw[if_neg e,if_neg e]
theorem DT {e':Ab}{f:Ag->Ag}(hl:rs.length=e.runs.length)(hi:∀i,i<e.runs.length->Br (Am rs i) (e.at_ i))(h:i<e.runs.length)(he:e'.runs=(e.AG i f).runs)(n:Br r (f (e.at_ i))):(rs.set i r).length=e'.runs.length/\∀j,j<e'.runs.length->Br (Am (rs.set i r) j) (e'.at_ j):=by
 have b:e'.runs.length=e.runs.length:=by rw[he];exact Zbi e i f
 refine⟨by rw[List.length_set,b];exact hl,fun j g=> ?_⟩;rw[b] at g;have m:e'.at_ j=(e.AG i f).at_ j:=by unfold Ab.at_;rw[he]
 rw[Zdg (by omega) (by omega),m,Zbr e i j f g];by_cases c:i=j
 ·subst c;rw[if_pos rfl,if_pos rfl];exact n
 ·rw[if_neg c,if_neg c];exact hi j g
theorem Gx.same {e':Ab}(h:Gx el e)(hl:e'.runs.length=e.runs.length)(g:∀j,j<e.runs.length->(e'.at_ j).id=(e.at_ j).id/\(e'.at_ j).ended=(e.at_ j).ended):Gx el e':=by
 obtain⟨is,o,n,p⟩:=h;have f:∀i,i∈is->i<e.runs.length:=fun i hi=>((n i).1 hi).1;refine⟨is,?_,fun i=> ?_,?_⟩
 ·rw[o]
  exact List.map_congr_left (fun i hi=>((g i (f i hi)).1).symm)
 ·rw[n,hl]
  constructor
  ·rintro⟨a,b⟩;exact⟨a,by rw[(g i a).2];exact b⟩
  ·rintro⟨a,b⟩;exact⟨a,by rw[<-(g i a).2];exact b⟩
 ·refine p.imp_of_mem (fun {a b} q s m=> ?_)
  rw[(g a (f a q)).2,(g b (f b s)).2];exact m
theorem Gx.snoc {e':Ab}(h:Gx el e)(hl:e'.runs.length=e.runs.length)(hi:i<e.runs.length)(u:(e.at_ i).ended=0)(n:∀j,j<e.runs.length->j≠i->(e'.at_ j).id=(e.at_ j).id/\(e'.at_ j).ended=(e.at_ j).ended)(t:(e'.at_ i).id=(e.at_ i).id)(g:(e'.at_ i).ended=e.ends+1)(z:0<=e.ends)(y:∀j,j<e.runs.length->(e.at_ j).ended<=e.ends):Gx (el++[(e.at_ i).id]) e':=by
 obtain⟨is,v,q,x⟩:=h;have f:∀j,j∈is->j<e.runs.length/\j≠i:=fun j p=>⟨((q j).1 p).1,fun c=>by have:=((q j).1 p).2;rw[c,u] at this;omega⟩
 refine⟨is++[i],?_,fun j=> ?_,?_⟩
 ·rw[v,List.map_append]
  congr 1
  ·exact List.map_congr_left (fun j p=>((n j (f j p).1 (f j p).2).1).symm)
  ·simp[t]
 ·rw[List.mem_append,List.mem_singleton,q,hl]
  constructor
  ·rintro (⟨a,b⟩ | rfl)
   ·by_cases c:j=i
    ·subst c;exact⟨a,by rw[g];omega⟩
    ·exact⟨a,by rw[(n j a c).2];exact b⟩
   ·exact⟨hi,by rw[g];omega⟩
  ·rintro⟨a,b⟩
   by_cases c:j=i
   ·exact Zj c
   ·exact Zu ⟨a,by rw[<-(n j a c).2];exact b⟩
 ·rw[List.pairwise_append]
  refine⟨x.imp_of_mem (fun {a b} m o s=>by rw[(n a (f a m).1 (f a m).2).2,(n b (f b o).1 (f b o).2).2];exact s),List.pairwise_singleton _ _,fun a m b o=> ?_⟩;rw[List.mem_singleton] at o;subst o;rw[g,(n a (f a m).1 (f a m).2).2];have:=y a (f a m).1;omega
open Go.RowKit
attribute [local go_sem ↓] Go.wp_at_zero Go.wp_at_succ
def BR (w:World)(P:Nat)(a:Option Addr)(c:Nat)(ks:List Nat):Prop:=ks=[]\/∃g cur,a=some ⟨g,0,none⟩/\g≠P/\ks.length<=c/\w.heap[g]? =some (.cells cur 3 (0,0))/\∀j,j<ks.length->cur[j]? =some (.int .i64 ((ks.getD j 0:Nat):Int))
theorem BR.of_own (u:P<B)(h:w.ownsRow B 3 1 (.slice a ks.length c) ks.length (QA ks)):BR w P a c ks:=by
 rcases h.2 with⟨_,b⟩ | ⟨g,cap,cur,b,q,hh,m,s,t,n⟩
 ·left;exact List.eq_nil_of_length_eq_zero b
 ·right
  obtain⟨o,_,p⟩:a=some ⟨g,0,none⟩/\ks.length=ks.length/\c=cap:=by simpa using b
  subst o p;refine⟨g,cur,rfl,by omega,m,hh,fun j f=> ?_⟩;have:(cur.toList.take (ks.length * 1))[j]? =(QA ks)[j]? :=by rw[n]
  rw[List.getElem?_take_of_lt (by omega)] at this;rw[<-Array.getElem?_toList,this];unfold QA;rw[List.getElem?_map,ZZ f,ZQ,ZZ f];rfl
theorem BR.at_ (h:BR w P a c ks)(o:∀k cs fr,w.heap[k]? =some (Obj.cells cs 3 fr)->k≠P->w'.heap[k]? =w.heap[k]?):BR w' P a c ks:=by
 rcases h with h | ⟨g,cur,j,b,m,f,n⟩
 ·exact Zu h
 ·exact Zj ⟨g,cur,j,b,m,(o g _ _ f b).trans f,n⟩
theorem BR.kf (h:BR w P a c ks)(hf:KF w w' P B ob):BR w' P a c ks :=
 h.at_ (fun k cs fr e b=>hf.block k (Zaa e) b (Zj ⟨cs,_,fr,e,by decide,by decide,by decide,by decide,by decide,fun x=>absurd x (by decide)⟩))
def Zdj (e:Ab)(i:Nat)(ks:List Nat):Ab:=ks.foldl (fun e k=>e.ready i k) e
theorem Pe (e:Ab)(i:Nat)(ks:List Nat)(k:Nat):Zdj e i (ks++[k])=(Zdj e i ks).ready i k:=by unfold Zdj;rw[List.foldl_append];rfl
def Mr (e:Ab)(i:Nat)(ks:List Nat)(l:List Tm):Prop:=Bn l/\∀t,t∈l↔BF e t/\∀k∈ks,¬Dw (e.at_ i).id k t
theorem Mr.done (h:Mr e i [] l):Be e l:=by
 rw[Zbc];exact⟨h.1,fun t=>by rw[h.2];simp⟩
theorem Mr.step (wk:Ao e)(hi:i<e.runs.length)(o:k<(e.at_ i).steps.length)(h:Mr e i (k::ks) l):Mr (e.ready i k) i ks l:=by
 refine⟨h.1,fun t=> ?_⟩;have j:((e.ready i k).at_ i).id=(e.at_ i).id:=by rw[DQ e i k hi];rfl
 rw[h.2,j,Zdp wk hi o (f:=fun s=>{ s with st:=2 }) (e':=e.ready i k) rfl]
 have n:¬Iz (e.at_ i).id k { (e.at_ i).at_ k with st:=2 } t:=by
  rintro (⟨b,_⟩ | ⟨b,_⟩ | ⟨b,_⟩)<;>simp at b
 constructor
 ·rintro⟨b,g⟩
  exact⟨Zu ⟨b,g k (List.mem_cons_self ..)⟩,fun m hm=>g m (List.mem_cons_of_mem _ hm)⟩
 ·rintro⟨b | ⟨_,b⟩,g⟩
  ·refine⟨b.1,fun m hm=> ?_⟩
   rcases List.mem_cons.1 hm with rfl | hm
   ·exact b.2
   ·exact g m hm
  ·exact absurd b n
theorem Be.toW (h:Be e l)(wk:Ao e)(hi:i<e.runs.length)(f:∀k∈ks,k<(e.at_ i).steps.length/\((e.at_ i).at_ k).st=1):Mr e i ks l:=by
 rw[Zbc] at h;refine⟨h.1,fun t=> ?_⟩;rw[h.2];refine⟨fun b=>⟨b,fun k hm j=> ?_⟩,fun b=>b.1⟩;obtain⟨k1,k2⟩:=f k hm;rcases (b.node wk hi k1 j).2 with⟨g,_⟩ | ⟨g,_⟩ | ⟨g,_⟩<;>rw[k2] at g<;>cases g
theorem Kc (w:World)(P B:Nat)(ob:Option Nat)(e:Ab)(rs:List Aq)(l:List Tm)(i c:Nat)(a:Option Addr)(ks:List Nat)(h:Cj w P B ob e rs l)(wk:Ao e)(hi:i<e.runs.length)(h1:(e.at_ i).st=1)(I:ks.Nodup/\∀k∈ks,k<(e.at_ i).steps.length/\(((e.at_ i).at_ k).st=1\/((e.at_ i).at_ k).st=4))(hT:Mr e i ks l)(hN:BR w P a c ks) :
  Calls prog 153 #[.pointer (some ⟨P,4,none⟩), .pointer (some ⟨(Am rs i).b,0,none⟩), .slice a ks.length c] w fun x w'=>x= .returned (.tuple #[])/\∃dd,Cj w' P B ob (Zdj e i ks) dd l/\BS rs dd/\Be (Zdj e i ks) l/\Ao (Zdj e i ks)/\FJ e (Zdj e i ks) i/\KF w w' P B ob:=by
 obtain⟨n,hn⟩:∃n,n=ks.length:=⟨_,rfl⟩
 have eu:n<=12:=by
  have:=Ft ks (List.range (e.at_ i).steps.length) I.1 (fun k hk=>List.mem_range.2 (I.2 k hk).1);rw[List.length_range] at this;have:=wk.IQ hi;omega
 have H:=Zz (Zq h (Zq wk (Zq hi (Zq h1 (Zq I (Zq hT (Zq hN hn)))))));rw[<-hn];obtain⟨b,hb⟩:∃b,b=(Am rs i).b:=⟨_,rfl⟩;rw[<-hb];have HB:=Zz hb;clear h wk hi h1 I hT hn hb;rcases hN with T | ⟨g,cur,rfl,du,fh,bw,ax⟩
 ·have cr:n=0:=by rw[H.o.2.2.2.2.2.2.2,T];rfl
  have de:=Zz T;rw[cr];clear T cr
  go_enter func153,ntmps153
  go_wp2_with fail
  refine wp_loop_rounds 1 ?_;rw[rounds_succ];go_wp2_with fail
  go_end0
  have hT:=H.o.2.2.2.2.2.1;rw[de.o] at hT ⊢;exact⟨rfl,rs,H.o.1,BS.refl _,hT.done,H.o.2.1,FJ.refl _ _,KF.refl _ _ _ _⟩
 ·clear ax bw du
  go_enter func153,ntmps153
  go_wp2_with fail
  go_loopw [10] (fun iv wr=>∃(j:Nat) (t:List Aq),iv= .int .i64 j/\j<=n/\Cj wr P B ob (Zdj e i (ks.take j)) t l/\BS rs t/\Mr (Zdj e i (ks.take j)) i (ks.drop j) l/\Ao (Zdj e i (ks.take j))/\FJ e (Zdj e i (ks.take j)) i/\KF w wr P B ob/\∀m,m ∉ ks.take j->m<(e.at_ i).steps.length->(((Zdj e i (ks.take j)).at_ i).at_ m)=(e.at_ i).at_ m) (fun iv _=>n - (intOf iv).toNat)
  case atStart=>exact⟨0,rs,rfl,by omega,H.o.1,BS.refl _,H.o.2.2.2.2.2.1,H.o.2.1,FJ.refl _ _,KF.refl _ _ _ _,fun _ _ _=>rfl⟩
  case round =>
   obtain⟨j,t,rfl,K,hX,W,X,ag,y,Z,D⟩:=hrel;obtain⟨A,Y⟩:∃A,A=Zdj e i (ks.take j):=⟨_,rfl⟩;rw[<-Y] at hX X ag y D;have HR:=Zz (Zq hX (Zq W (Zq X (Zq ag (Zq y (Zq Z (Zq D Y)))))));by_cases h1:j<n
   ·have E:j<ks.length:=by have:=H.o.2.2.2.2.2.2.2;omega
    obtain⟨k,hk⟩:∃k,k=ks.getD j 0:=⟨_,rfl⟩;have az:k∈ks:=by rw[hk,ZQ,ZZ E];exact List.getElem_mem _
    obtain⟨ay,I⟩:=H.o.2.2.2.2.1.2 k az;have br:BR wr P (some ⟨g,0,none⟩) c ks:=H.o.2.2.2.2.2.2.1.kf Z
    have ee:wr.cell? ⟨g,j,none⟩=some (.int .i64 k):=by
     rcases br with h | ⟨g2,ep,h1,_,_,h3,h4⟩
     ·rw[h] at E;simp at E
     ·obtain rfl:g=g2:=by simpa using h1
      unfold World.cell?;rw[h3,hk];exact h4 j E
    obtain⟨el,now,hM,db,cm⟩:=hX.ex;obtain⟨ka,kc,cq⟩:=hM.kn;have R:i<t.length:=by rw[hX.len,y.len];exact H.o.2.2.1
    have aw:(Am t i).b=b:=by rw[HB.o];exact W.2 i (by have:=H.o.1.len;have:=H.o.2.2.1;omega)
    have C:=cq.runs i R;obtain⟨⟨t0,_,t2⟩,_⟩:=C.CP;obtain⟨_,_,ey,_,_,_⟩:=C.Bi;have av:=hX.runs i (by rw[<-hX.len];exact R);have G:k<(Am t i).ns.length:=by rw[av.len,y.steps];exact ay
    have t7:=(C.nd G).c7;have f7:=C.AE (k * 10+7);have q:=C.FQ (k:=k) (j:=7) (f:=fun n=>{ n with st:=2 }) (v:= .int .i64 2) G (by omega) rfl ⟨rfl,rfl,rfl⟩;have au:=hM.run R q rfl rfl (Du.Ey wr (Am t i).b (Am t i).ng _ _);rw[aw] at t0 t2;have fi:(k:Int)<((Am t i).ns.length:Int):=by omega
    obtain⟨ng,b9⟩:∃ng,ng=(Am t i).ng:=⟨_,rfl⟩;rw[<-b9] at t2 t7 f7 q au;have ar:=Zz (Zq au (Zq q b9));have HK:=Zz (Zq hk (Zq ay (Zq I (Zq R (Zq aw (Zq av (Zq G (Zq db (Zq cm az)))))))));have j1:(j:Int)<(n:Int):=by omega
    have bo:=Zz C
    generalize hz:(Am t i).ns.length=z at *
    generalize (Am t i).nc=nc at *
    have fc:z<=12:=by rw[<-hz];exact bo.o.Bs
    generalize (Am t i).id=id at *
    clear hX W X ag y Z D Y hk az ay I br hM db cm cq R aw C av G q au b9
    go_upto_region 4 with fail
    obtain⟨M,ae⟩:∃M,M=wr.setCell ⟨ng,k * 10+7,none⟩ (.int .i64 2):=⟨_,rfl⟩;rw[<-ae];have p:=ar.o;rw[<-ae] at p;obtain⟨qa,qn,qc,qf,ei,hq⟩:=p.1.qu
    have d0:M.cell? ⟨b,0,none⟩=some (.int .u64 (Am t i).id):=by
     have:=p.2.1.CP.1.1;have e2:((Am t i).BE k (fun n=>{ n with st:=2 })).b=b:=HK.o.2.2.2.2.1;rw[e2] at this;exact this
    have aj:(Am t i).id=(A.at_ i).id:=HK.o.2.2.2.2.2.1.id;rw[aj] at d0;obtain⟨F,bh⟩:∃F,F=(A.at_ i).id:=⟨_,rfl⟩;rw[<-bh] at d0;obtain⟨wp,L⟩:∃wp,wp=(M.drew).alloc (.cells #[.int .u64 F, .int .i64 k] 274):=⟨_,rfl⟩;have N:Below M.heap.size M wp:=by rw[L];exact ((Zk _ _).drew).alloc (Zx _) _
    have S:FT wp M.heap.size ⟨F,k⟩:=by
     obtain⟨z0,z1⟩:=(show _/\_ from L▸Zcz M.drew F k);refine⟨by rw[L];simp,fun j u K=> ?_⟩;unfold AY at K
     match j,K with
     | 0,K=>simp at K;subst K;exact z0
     | 1,K=>simp at K;subst K;exact z1
    have cu:=hq.below N;have eg:=p.1.pb;have ct:A.queue.length<=400:=by have:=HR.o.2.2.2.1.TL;omega
    have J:=QN wp P B qn qc qf M.heap.size qa ei A.queue ⟨F,k⟩ cu S (by omega) (fun e=>by have:=(hq.row.lt _ e.symm).2;omega) ct
    have O:∀w3,RF wp w3 P (Value.slice qa qn qc).ownBlock 8 11->w3.cell? ⟨b,0,none⟩=some (.int .u64 F):=by
     intro w3 dr;have e2:((Am t i).BE k (fun n=>{ n with st:=2 })).b=b:=HK.o.2.2.2.2.1;have V:=p.2.1.top;rw[e2] at V;have fg:b<M.heap.size:=Zaa V;have fe:B<=b:=by have:=p.2.1.bb;rw[e2] at this;exact this
     refine (World.cell?_of_block (a:=⟨b,0,none⟩) (dr.block b (by have:=N.size;omega) (by omega) (fun e=> ?_))).trans (cell_later N d0);rcases hq.row.2 with⟨h2,_⟩ | ⟨g',cap,eo,h2,_,hh,_⟩
     ·rw[h2] at e;simp[Value.ownBlock] at e
     ·rw[h2] at e
      simp only[Value.ownBlock,Option.some.injEq] at e;exact Zai V hh (by decide) e
    rw[L] at J O;have HP:=Zz (Zq J O);have HQ:=Zz (Zq hq (Zq N (Zq bh (Zq ae L))));have bj:=Zz p;have ez:=World.new_ne M ⟨b,0,none⟩ d0;clear p hq N cu S J O bh ae eg ct aj L
    go_region_held3 (fun w'=>w'.cell? ⟨b,0,none⟩=some (.int .u64 F)) (go_keep) ((go_at_call 191;refine HP.o.1.mono ?_;rintro e w3 ⟨rfl,bf⟩;have dh:=Zz bf;have v0:=HP.o.2 w3 bf.choose_spec.choose_spec.choose_spec.choose_spec.choose_spec.2.1;clear bf))
    all_goals
     go_wp2_with fail
     go_roundw
     case rel =>
      obtain⟨a',n',c',f',fj,p1,p2,p3⟩:=dh.o;obtain⟨k1,k2,k3,k4,k5⟩:=HQ.o;rw[<-k5] at p2 p3;obtain⟨m1,m2,m3,m4,m5,m6,m7,m8,m9,m10⟩:=HK.o;obtain⟨r1,r2,r3,r4,r5,r6,r7,r8⟩:=HR.o;have K:k<(A.at_ i).steps.length:=by rw[r5.steps];exact m2
      have Q:i<A.runs.length:=by rw[r5.len];exact H.o.2.2.1
      have cy:RF M w3 P (Value.slice qa qn qc).ownBlock 8 11:=(RF.Ae P _ 8 11 k2).trans p2 (fun z hz=>Zu hz);have bp:=bj.o.1.queue k1 cy ⟨_,_,_,_,_,p1⟩;have E:j<ks.length:=by have:=H.o.2.2.2.2.2.2.2;omega
      have G:ks[j]=k:=by rw[m1,ZQ,ZZ E];rfl
      have da:ks.take (j+1)=ks.take j++[k]:=by rw[List.take_add_one,ZZ E,G];rfl
      have ck:ks.drop j=k::ks.drop (j+1):=by rw[List.drop_eq_getElem_cons E,G]
      have U:Zdj e i (ks.take (j+1))=A.ready i k:=by rw[da,Pe,<-r8]
      have dy:k ∉ ks.take j:=by
       intro hm;have hd:=H.o.2.2.2.2.1.1;rw[<-List.take_append_drop j ks,ck] at hd;exact (List.nodup_append.1 hd).2.2 k hm k (List.mem_cons_self ..) rfl
      have dp:(A.at_ i).at_ k=(e.at_ i).at_ k:=r7 k dy m2;have al:(A.at_ i).st=1:=by rw[r5.st];exact H.o.2.2.2.1
      have dc:Ao (A.ready i k):=r4.ready Q K al (by rw[dp];exact m3);have q:=DT (e:=A) (e':=A.ready i k) (f:=fun d=>d.Af k (fun s=>{ s with st:=2 })) r1.len r1.runs Q rfl (m6.Mg al K 2);have dj:=DQ A i k Q;refine⟨j+1,t.set i ((Am t i).BE k (fun n=>{ n with st:=2 })),by go_num,by omega,?_,?_,?_,by rw[U];exact dc,by rw[U];exact r5.trans (FJ.ready A k Q),?_,?_⟩
      ·rw[U]
       refine⟨⟨el,now,?_,m8,?_⟩,q.1,q.2⟩
       ·rw[k3] at bp
        exact bp
       ·exact m9.same (Io A i k) (fun x hx=>by
         have:=Zba (e:=A) (e':=A.ready i k) (i:=i) (k:=k) (f:=fun s=>{ s with st:=2 }) rfl hx;exact⟨this.1,this.2.2.2.2.2⟩)
      ·refine r2.trans ⟨by rw[List.length_set],fun x hx=> ?_⟩
       rw[Zdg m4 hx]
       split
       ·rename_i e;subst e;rfl
       ·rfl
      ·rw[U]
       rw[ck] at r3;exact r3.step r4 Q K
      ·have g1:KF wr M P B ob:=by
        rw[k4];have C:=bo.o;have hf:=Du.Ey wr (Am t i).b (Am t i).ng (k * 10+7) (.int .i64 2);rw[<-ar.o.2.2] at hf;exact KF.IT (r:=Am t i) C (by rw[<-ar.o.2.2];exact hf) bj.o.1.pb.1
       exact (r6.trans g1 (As.refl _ _)).trans (KF.QD k1 cy ob) (As.refl _ _)
      ·intro m hm dw
       rw[da,List.mem_append,List.mem_singleton] at hm;rw[U,dj,Zbh _ _ (fun e=>hm (Zj e.symm))];exact r7 m (fun h=>hm (Zu h)) dw
     case measure=>simp[intOf];omega
   ·have e:j=n:=by omega
    have HE:=Zz e;have j1:¬(j:Int)<(n:Int):=by omega
    clear e h1 hX W X ag y Z D Y;go_wp2_with fail
    go_end0
    obtain⟨r1,r2,r3,r4,r5,r6,r7,r8⟩:=HR.o;have hk:=H.o.2.2.2.2.2.2.2;rw[List.take_of_length_le (by have:=HE.o;omega)] at r8;rw[r8] at r1 r4 r5;rw[List.drop_of_length_le (by have:=HE.o;omega),r8] at r3;exact⟨rfl,t,r1,r2,r3.done,r4,r5,r6⟩
end Go.Proofs.YtgdcjccbdmcebaaGreatDoor
