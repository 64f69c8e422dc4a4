import Derived.Test.YtgdcjccbdmcebaaGreatDoorM02
import Derived.ScopeJumps
import Derived.WalkMore
import Derived.Deep.CutRange
import Derived.Deep.LoopGhost
set_option linter.unusedSimpArgs false
set_option linter.unusedVariables false
set_option maxHeartbeats 8000000
set_option maxRecDepth 100000
namespace Go.Proofs.YtgdcjccbdmcebaaGreatDoor
open Tryz
variable {w w':World}{B k j:Nat}{Q:Exit->Act->World->Prop}{P:Program}{st:Int}
theorem Eu {a:Act}{c rest:Code}(l:Nat)(J:Act->World->Prop)(μ:Act->World->Nat)(hf:findLabel c l=some (Code.skip.seq rest))
  (start:∀R:Exit->Act->World->Prop,(∀a w,J a w->rest.wp P R a w)->c.wp P R a w)
  (pass:∀a w,J a w->rest.wp P (Exit.jump l (fun d w'=>J d w'/\μ d w'<μ a w) Q) a w):(Code.scope c).wp P Q a w :=
 wp_scope_jumps l J μ hf (start _ fun a w b=>wp_mono (pass a w b) fun e a w h=>by
  cases e with
  | goto g=>exact⟨h.1,h.2.1⟩
  | normal=>exact h
  | exit id=>exact h
  | ret=>exact h
  | panic f=>exact h
  | outgrown=>exact h) (fun a w b=>wp_seq (wp_skip (pass a w b)))
theorem VF {p:Nat->Prop}(h:∃n,p n):∃n,p n/\∀m,p m->n<=m:=by
 obtain⟨n,hn⟩:=h
 induction n using Nat.strongRecOn with
 | _ n d =>
  by_cases b:∃m,m<n/\p m
  ·obtain⟨m,a,c⟩:=b
   exact d m a c
  ·refine⟨n,hn,fun m hm=> ?_⟩
   rcases Nat.lt_or_ge m n with a | a
   ·exact absurd ⟨m,a,hm⟩ b
   ·exact a
theorem Hj {a:Act}{c rest:Code}(l:Nat)(J:Nat->Act->World->Prop)(hf:findLabel c l=some (Code.skip.seq rest))
  (start:∀R:Exit->Act->World->Prop,(∀n a w,J n a w->rest.wp P R a w)->c.wp P R a w)
  (pass:∀n a w,J n a w->rest.wp P (Exit.jump l (fun d w'=>∃m,m<n/\J m d w') Q) a w):(Code.scope c).wp P Q a w:=by
 obtain⟨μ,hμ⟩:∃μ:Act->World->Nat,∀a w,(∃n,J n a w)->J (μ a w) a w/\∀m,J m a w->μ a w<=m:=by
  refine Classical.skolem (p:=fun a (f:World->Nat)=>∀w,(∃n,J n a w)->J (f w) a w/\∀m,J m a w->f w<=m) |>.1 (fun a=> ?_)
  refine Classical.skolem (p:=fun w (k:Nat)=>(∃n,J n a w)->J k a w/\∀m,J m a w->k<=m) |>.1 (fun w=> ?_)
  by_cases h:∃n,J n a w
  ·obtain⟨n,g,b⟩:=VF h
   exact⟨n,fun _=>⟨g,b⟩⟩
  ·exact⟨0,fun b=>absurd b h⟩
 refine Eu l (fun a w=>∃n,J n a w) μ hf (fun R o=>start R (fun n a w i=>o a w ⟨n,i⟩)) (fun a w i=> ?_);obtain⟨g,b⟩:=hμ a w i;refine wp_mono (pass _ a w g) fun e d w' h=> ?_
 cases e with
 | goto r =>
  obtain⟨g1,m,g2,g3⟩:=h;exact⟨g1,⟨m,g3⟩,Nat.lt_of_le_of_lt ((hμ d w' ⟨m,g3⟩).2 m g3) g2⟩
 | normal=>exact h
 | exit id=>exact h
 | ret=>exact h
 | panic q=>exact h
 | outgrown=>exact h
open Go.RowKit
structure Cl where
 bu:Int
 cl:Int
 be:Int
 ba:Int
 ca:Int
 ji:Int
 aa:Option Addr
 ac:Nat
 af:List Int
 st:Int
 tries:Int
 tok:Int
def Cl.z:Cl:=⟨0,0,0,0,0,0,none,0,[],0,0,0⟩
def NC (n:Cl):List Value:=[.int .i64 n.bu, .int .i64 n.cl, .int .i64 n.be, .int .i64 n.ba, .int .i64 n.ca, .int .i64 n.ji, .slice n.aa n.af.length n.ac, .int .i64 n.st, .int .i64 n.tries, .int .u64 n.tok]
theorem MJ (n:Cl):(NC n).length=10:=rfl
structure Aq where
 b:Nat
 id:Int
 st:Int
 ng:Nat
 nc:Nat
 ns:List Cl
def Aq.z:Aq:=⟨0,0,0,0,0,[]⟩
def Aq.at_ (r:Aq)(k:Nat):Cl:=r.ns.getD k .z
def Aq.BE (r:Aq)(k:Nat)(f:Cl->Cl):Aq:={ r with ns:=r.ns.modify k f }
theorem Aq.AU (r:Aq)(k:Nat)(f:Cl->Cl):(r.BE k f).ns.length=r.ns.length:=by simp[Aq.BE]
theorem Aq.Ca (r:Aq)(k j:Nat)(f:Cl->Cl)(a:j<r.ns.length):(r.BE k f).at_ j=if k=j then f (r.at_ j) else r.at_ j:=getD_modify (z:=Cl.z) _ _ _ _ a
def rnC (r:Aq):Array Value:=#[.int .u64 r.id, .int .i64 r.st, .slice (some ⟨r.ng,0,none⟩) r.ns.length r.nc]
def Lm (r:Aq):List Value:=[.pointer (some ⟨r.b,0,none⟩)]
theorem Dj (r:Aq):(Lm r).length=1:=rfl
def afV (l:List Int):List Value:=l.map (fun x=> .int .i64 x)
def NJ (w:World)(B:Nat)(n:Cl):Prop:=w.ownsRow B 3 1 (.slice n.aa n.af.length n.ac) n.af.length (afV n.af)
structure AW (w:World)(B:Nat)(r:Aq):Prop where
 top:w.heap[r.b]? =some (.cells (rnC r) 272 (0,0))
 bb:B<=r.b
 row:By w B 276 10 NC (some ⟨r.ng,0,none⟩) r.nc r.ns
 ID:∀k,k<r.ns.length->NJ w B (r.at_ k)
 some_:1<=r.ns.length
 Bs:r.ns.length<=12
structure Du (w w':World)(b g:Nat):Prop where
 os:w'.os=w.os
 tape:w'.tape=w.tape
 output:w'.output=w.output
 size:w.heap.size<=w'.heap.size
 block:∀k,k<w.heap.size->k≠b->k≠g->w'.heap[k]? =w.heap[k]?
theorem Du.Ae (b g:Nat)(h:Below w.heap.size w w'):Du w w' b g:=⟨h.os,h.tape,h.output,h.size,fun k a _ _=>h.block k a⟩
theorem Du.trans {x y z:World}{b g:Nat}(h:Du x y b g)(k:Du y z b g):Du x z b g :=
 ⟨k.os.trans h.os,k.tape.trans h.tape,k.output.trans h.output,Zv h.size k.size,fun j d a c=>(k.block j (Zy d h.size) a c).trans (h.block j d a c)⟩
theorem Du.setB (w:World)(b g o:Nat)(v:Value):Du w (w.setCell ⟨b,o,none⟩ v) b g:=⟨rfl,rfl,rfl,by simp[World.setCell],fun k _ a _=>Zl w ⟨b,o,none⟩ v k a⟩
theorem Du.Ey (w:World)(b g o:Nat)(v:Value):Du w (w.setCell ⟨g,o,none⟩ v) b g:=⟨rfl,rfl,rfl,by simp[World.setCell],fun k _ _ a=>Zl w ⟨g,o,none⟩ v k a⟩
theorem AW.Cx {r:Aq}(h:AW w B r)(c:∀k cs t fr,B<=k->w.heap[k]? =some (.cells cs t fr)->(t=272\/t=276\/t=3)->w'.heap[k]? =w.heap[k]?):AW w' B r:=by
 have d:∀{e:TypeId} {size n:Nat} {v:Value} {xs:List Value},(e=272\/e=276\/e=3)->w.ownsRow B e size v n xs->w'.ownsRow B e size v n xs:=by
  intro e size n v xs he f;refine⟨f.1,?_⟩;rcases f.2 with i | ⟨g,cap,cur,rfl,hg,hh,l⟩
  ·exact Zu i
  ·exact Zj ⟨g,cap,cur,rfl,hg,(c g cur e (0,0) hg hh he).trans hh,l⟩
 exact⟨(c r.b _ _ _ h.bb h.top (Zu rfl)).trans h.top,h.bb,d (Zj (Zu rfl)) h.row,fun k a=>d (Zj (Zj rfl)) (h.ID k a),h.some_,h.Bs⟩
theorem AW.below {r:Aq}(h:AW w B r)(a:Below w.heap.size w w'):AW w' B r :=
 h.Cx (fun k _ _ _ _ e _=>a.block k (Array.getElem?_eq_some_iff.1 e).1)
theorem AW.lt {r:Aq}(h:AW w B r):r.b<w.heap.size:=(Array.getElem?_eq_some_iff.1 h.top).1
theorem AW.Bi {r:Aq}(h:AW w B r):∃cur,w.heap[r.ng]? =some (.cells cur 276 (0,0))/\r.ns.length<=r.nc/\r.nc<=maxLen/\B<=r.ng/\r.ng<w.heap.size:=by
 obtain⟨g,cur,hg,a,b,c,d,hh⟩:=Zdt h.row (by have:=h.some_;omega);obtain rfl:r.ng=g:=by simpa using hg
 exact⟨cur,hh,c,d,a,b⟩
theorem AW.cell {r:Aq}(h:AW w B r)(b:k<r.ns.length)(a:j<10):w.cell? ⟨r.ng,k * 10+j,none⟩=(NC (r.at_ k))[j]? :=DS (z:=Cl.z) h.row MJ b a
theorem AW.AE {r:Aq}(h:AW w B r)(j:Nat):w.frozen? ⟨r.ng,j,none⟩=false:=Gr h.row j
structure NdC (w:World)(g o:Nat)(n:Cl):Prop where
 c0:w.cell? ⟨g,o,none⟩=some (.int .i64 n.bu)
 c1:w.cell? ⟨g,o+1,none⟩=some (.int .i64 n.cl)
 c2:w.cell? ⟨g,o+2,none⟩=some (.int .i64 n.be)
 c3:w.cell? ⟨g,o+3,none⟩=some (.int .i64 n.ba)
 c4:w.cell? ⟨g,o+4,none⟩=some (.int .i64 n.ca)
 c5:w.cell? ⟨g,o+5,none⟩=some (.int .i64 n.ji)
 c6:w.cell? ⟨g,o+6,none⟩=some (.slice n.aa n.af.length n.ac)
 c7:w.cell? ⟨g,o+7,none⟩=some (.int .i64 n.st)
 c8:w.cell? ⟨g,o+8,none⟩=some (.int .i64 n.tries)
 c9:w.cell? ⟨g,o+9,none⟩=some (.int .u64 n.tok)
theorem AW.nd {r:Aq}(h:AW w B r)(a:k<r.ns.length):NdC w r.ng (k * 10) (r.at_ k) :=
 ⟨h.cell a (j:=0) (by omega),h.cell a (j:=1) (by omega),h.cell a (j:=2) (by omega),h.cell a (j:=3) (by omega),h.cell a (j:=4) (by omega),h.cell a (j:=5) (by omega),h.cell a (j:=6) (by omega),h.cell a (j:=7) (by omega),h.cell a (j:=8) (by omega),h.cell a (j:=9) (by omega)⟩
theorem AW.CP {r:Aq}(h:AW w B r):(w.cell? ⟨r.b,0,none⟩=some (.int .u64 r.id)/\w.cell? ⟨r.b,1,none⟩=some (.int .i64 r.st)/\w.cell? ⟨r.b,2,none⟩=some (.slice (some ⟨r.ng,0,none⟩) r.ns.length r.nc))/\∀j,w.frozen? ⟨r.b,j,none⟩=false:=by
 refine⟨⟨?_,?_,?_⟩,fun j=> ?_⟩
 ·unfold World.cell?;rw[h.top];rfl
 ·unfold World.cell?;rw[h.top];rfl
 ·unfold World.cell?;rw[h.top];rfl
 ·simp[World.frozen?,h.top]
theorem AW.FQ {r:Aq}(h:AW w B r)(g:k<r.ns.length)(d:j<10){f:Cl->Cl}{v:Value}(hf:NC (f (r.at_ k))=(NC (r.at_ k)).set j v)(a:(f (r.at_ k)).aa=(r.at_ k).aa/\(f (r.at_ k)).ac=(r.at_ k).ac/\(f (r.at_ k)).af=(r.at_ k).af) :
  AW (w.setCell ⟨r.ng,k * 10+j,none⟩ v) B (r.BE k f):=by
 obtain⟨cur,hh,_⟩:=h.Bi;refine⟨?_,h.bb,ZJ (z:=Cl.z) h.row MJ g d hf,fun m hm=> ?_,by rw[r.AU];exact h.some_,by rw[r.AU];exact h.Bs⟩
 ·show (w.setCell ⟨r.ng,k * 10+j,none⟩ v).heap[r.b]? =_
  rw[Zl _ _ _ _ (Zai h.top hh (by decide)),h.top];unfold rnC;rw[r.AU];rfl
 ·rw[r.AU] at hm
  have c:=Zae (h.ID m hm) hh (by decide) v (o:=k * 10+j);unfold NJ;rw[r.Ca _ _ _ hm];by_cases e:k=m
  ·subst e
   rw[if_pos rfl,a.1,a.2.1,a.2.2];exact c
  ·rw[if_neg e];exact c
theorem AW.QT {r:Aq}(h:AW w B r)(l:k<r.ns.length)(n:Cl)(hn:n.aa=none/\n.ac=0/\n.af=[])(hw:w'=w.setCells r.ng (k * 10) (NC n)) :
  AW w' B (r.BE k (fun _=>n))/\Du w w' r.b r.ng:=by
 subst hw;obtain⟨cur,hh,q1,q,s,t⟩:=h.Bi;have a:∀j,j≠r.ng->(w.setCells r.ng (k * 10) (NC n)).heap[j]? =w.heap[j]? :=fun j d=>Pk r.ng j d _ _ _;obtain⟨s1,s2,s3,p⟩:=QV w r.ng (k * 10) (NC n);refine⟨⟨?_,h.bb,?_,fun m hm=> ?_,by rw[r.AU];exact h.some_,by rw[r.AU];exact h.Bs⟩,⟨s2,s3,p,by rw[s1];exact Zx _,fun j _ _ d=>a j d⟩⟩
 ·show (w.setCells r.ng (k * 10) (NC n)).heap[r.b]? =_
  rw[a _ (Zai h.top hh (by decide)),h.top];unfold rnC;rw[r.AU];rfl
 ·have:=KB (z:=Cl.z) h.row MJ l n
  show By _ B _ 10 NC _ _ (r.ns.modify k (fun _=>n));rw[MP];exact this
 ·rw[r.AU] at hm
  unfold NJ;rw[r.Ca _ _ _ hm];by_cases e:k=m
  ·subst e
   rw[if_pos rfl,hn.1,hn.2.1,hn.2.2];exact World.ownsRow_nil _ _ _ _
  ·rw[if_neg e]
   have i:=h.ID m hm;refine⟨i.1,?_⟩;rcases i.2 with c | ⟨g,cap,c2,c,hg,f,o⟩
   ·exact Zu c
   ·exact Zj ⟨g,cap,c2,c,hg,(a g (Zai f hh (by decide))).trans f,o⟩
theorem AW.Mg {r:Aq}(h:AW w B r)(st:Int):AW (w.setCell ⟨r.b,1,none⟩ (.int .i64 st)) B { r with st:=st }:=by
 refine⟨by rw[Zab h.top];rfl,h.bb,Zae h.row h.top (by decide) _,fun k a=>Zae (h.ID k a) h.top (by decide) _,h.some_,h.Bs⟩
open Go.RowKit
attribute [local go_sem ↓] Go.wp_at_zero Go.wp_at_succ
def Aq.Wu (r:Aq):Int:=if r.ns.all (fun n=>n.st == 5||n.st == 6||n.st == 7) then (if r.ns.all (fun n=>n.st == 5) then 2 else 3) else 1
theorem Pr {r:Aq}{p:Cl->Bool}{i:Nat}(hi:i<r.ns.length):(r.ns.take (i+1)).all p=((r.ns.take i).all p&&p (r.at_ i)):=by
 rw[List.take_add_one,ZZ hi,List.all_append]
 congr 1
 simp[Aq.at_,ZQ,ZZ hi]
theorem YW {r:Aq}{p:Cl->Bool}{i:Nat}(hi:i<r.ns.length)(h:p (r.at_ i)=false):r.ns.all p=false:=by
 rw[List.all_eq_false];refine⟨r.at_ i,?_,by simp[h]⟩;simp[Aq.at_,ZQ,ZZ hi]
def Wt (l:List Cl):Int:=if l.all (fun n=>n.st == 5) then 2 else 3
theorem OU (w:World)(B:Nat)(r:Aq)(h:AW w B r) :
  Calls prog 226 #[.pointer (some ⟨r.b,0,none⟩)] w fun e w'=>e= .returned (.int .i64 r.Wu)/\Below w.heap.size w w':=by
 have H:=Zz h;have G:=Zz (Zk w.heap.size w);obtain⟨⟨c0,c1,c2⟩,_⟩:=h.CP;obtain⟨_,_,D,C,_,_⟩:=h.Bi;have A:=h.Bs;obtain⟨m,hm⟩:∃m,m=r.ns.length:=⟨_,rfl⟩;rw[<-hm] at c2 D A;have s:=Zz hm;clear h hm c0 c1 C
 go_enter func226,ntmps226
 go_wp2_with fail
 go_loopw [3,11] (fun O E wr=>∃i:Nat,E= .int .i64 i/\O= .int .i64 (Wt (r.ns.take i))/\i<=m/\Below w.heap.size w wr/\(r.ns.take i).all (fun n=>n.st == 5||n.st == 6||n.st == 7)=true) (fun _ E _=>m - (intOf E).toNat)
 case atStart=>exact⟨0,rfl,by simp[Wt],by omega,G.o,by simp⟩
 case round =>
  obtain⟨i,rfl,rfl,hi,u,f⟩:=hrel;have a:=Zz u;have c:=Zz f;clear f u;by_cases z:i<m
  ·have F:=H.o.below a.o
   obtain⟨t0,t1,t2,t3,t4,t5,t6,t7,t8,t9⟩:=F.nd (k:=i) (by have:=s.o;omega);have t:=Pr (r:=r) (p:=fun n=>n.st == 5||n.st == 6||n.st == 7) (i:=i) (by have:=s.o;omega);have g:=Pr (r:=r) (p:=fun n=>n.st == 5) (i:=i) (by have:=s.o;omega);have v:=YW (r:=r) (p:=fun n=>n.st == 5||n.st == 6||n.st == 7) (i:=i) (by have:=s.o;omega)
   generalize r.at_ i=n at *
   have l:=Zz (Zq t (Zq g v));have i1:(i:Int)<(m:Int):=by omega
   clear t g v F;by_cases q:n.st=5
   ·have g1:(n.st == 5)=true:=by simpa using q
    have d:=Zz q;go_wp2_with fail
    go_roundw
    case rel=>exact⟨i+1,by go_num,by unfold Wt;rw[l.o.2.1,d.o];simp,by omega,a.o.alloc a.o.size _,by rw[l.o.1,c.o,d.o];rfl⟩
    case measure=>simp[intOf];omega
   ·by_cases x:n.st=6
    ·have d:=Zz x
     go_wp2_with fail
     go_roundw
     case rel=>exact⟨i+1,by go_num,by unfold Wt;rw[l.o.2.1,d.o];simp,by omega,a.o.alloc a.o.size _,by rw[l.o.1,c.o,d.o];rfl⟩
     case measure=>simp[intOf];omega
    ·by_cases y:n.st=7
     ·have d:=Zz y
      go_wp2_with fail
      go_roundw
      case rel=>exact⟨i+1,by go_num,by unfold Wt;rw[l.o.2.1,d.o];simp,by omega,a.o.alloc a.o.size _,by rw[l.o.1,c.o,d.o];rfl⟩
      case measure=>simp[intOf];omega
     ·have d:=Zz (Zq q (Zq x y))
      have g5:decide (n.st=5)=false:=decide_eq_false q;have g6:decide (n.st=6)=false:=decide_eq_false x;have g7:decide (n.st=7)=false:=decide_eq_false y;have J:(n.st == 5)=false:=by simpa using q
      have K:(n.st == 6)=false:=by simpa using x
      have L:(n.st == 7)=false:=by simpa using y
      clear q x y;go_wp2_with fail
      go_ret
      have N:=l.o.2.2 (by have:=d.o;simp[this.1,this.2.1,this.2.2]);refine⟨?_,a.o.alloc a.o.size _⟩;unfold Aq.Wu;rw[if_neg (by rw[N];simp)]
      rfl
  ·have e:i=m:=by omega
   have I:=Zz e;have i1:¬(i:Int)<(m:Int):=by omega
   clear e z;go_wp2_with fail
   go_ret
   have z:=c.o;have M:r.ns.take i=r.ns:=List.take_of_length_le (by have:=s.o;have:=I.o;omega);rw[M] at z ⊢;refine⟨?_,a.o⟩;unfold Aq.Wu;rw[if_pos z]
   rfl
def Kt (st:Int):Int:=if st=5\/st=6 then st else 7
def Cl.over (n:Cl):Cl:=⟨0,0,0,0,0,0,none,0,[],Kt n.st,n.tries,0⟩
def Aq.Cr (r:Aq)(st:Int)(k:Nat):Aq:={ r with st:=st,ns:=(r.ns.take k).map Cl.over++r.ns.drop k }
def Aq.ended (r:Aq)(st:Int):Aq:={ r with st:=st,ns:=r.ns.map Cl.over }
theorem Aq.PR (r:Aq)(st:Int):r.Cr st 0={ r with st:=st }:=by unfold Aq.Cr;simp
theorem Aq.Ly (r:Aq)(st:Int):r.Cr st r.ns.length=r.ended st:=by unfold Aq.Cr Aq.ended;simp
theorem Aq.CQ (r:Aq)(st:Int)(k:Nat):(r.Cr st k).ns.length=r.ns.length:=by unfold Aq.Cr;simp;omega
theorem Aq.GH {r:Aq}{m:Nat}(hm:m<r.ns.length):(r.Cr st k).at_ m=if m<k then (r.at_ m).over else r.at_ m:=by
 unfold Aq.Cr Aq.at_;simp only[ZQ];by_cases h:m<k
 ·rw[if_pos h,List.getElem?_append_left (by simp;omega),List.getElem?_map,List.getElem?_take_of_lt h,ZZ hm];rfl
 ·rw[if_neg h,List.getElem?_append_right (by simp;omega),List.getElem?_drop]
  congr 2
  rw[List.length_map,List.length_take];omega
theorem VY {r q:Aq}(a:q.b=r.b/\q.id=r.id/\q.st=r.st/\q.ng=r.ng/\q.nc=r.nc)(hl:q.ns.length=r.ns.length)(e:∀m,m<r.ns.length->q.at_ m=r.at_ m):q=r:=by
 obtain⟨b,id,st,ng,nc,ns⟩:=r;obtain⟨n,f,l,h,g,i⟩:=q;simp only at a hl;obtain⟨rfl,rfl,rfl,rfl,rfl⟩:=a
 congr 1
 apply List.ext_getElem hl
 intro m d c;have:=e m c;simp only[Aq.at_,ZQ,ZZ d,ZZ c,Option.getD_some] at this;exact this
theorem Aq.Ge {r:Aq}(a:k<r.ns.length):r.Cr st (k+1)=(r.Cr st k).BE k (fun _=>(r.at_ k).over):=by
 refine VY ⟨rfl,rfl,rfl,rfl,rfl⟩ (by rw[r.CQ,Aq.AU,r.CQ]) (fun m hm=> ?_);rw[Aq.AU,r.CQ] at hm;rw[Aq.Ca _ _ _ _ (by rw[r.CQ];exact hm),Aq.GH hm,Aq.GH hm];by_cases e:k=m
 ·subst e;rw[if_pos (by omega),if_pos rfl]
 ·rw[if_neg e]
  by_cases h:m<k
  ·rw[if_pos h,if_pos (by omega)]
  ·rw[if_neg h,if_neg (by omega)]
theorem Fu (r:Aq)(k:Nat)(f:Cl->Cl)(n:Cl)(a:k<r.ns.length):(r.BE k f).BE k (fun _=>n)=r.BE k (fun _=>n):=by
 refine VY ⟨rfl,rfl,rfl,rfl,rfl⟩ (by simp[Aq.AU]) (fun m hm=> ?_);rw[Aq.AU] at hm;rw[Aq.Ca _ _ _ _ (by rw[Aq.AU];exact hm),Aq.Ca _ _ _ _ hm,Aq.Ca _ _ _ _ hm];by_cases e:k=m
 ·rw[if_pos e,if_pos e]
 ·rw[if_neg e,if_neg e,if_neg e]
theorem AW.drew {r:Aq}(h:AW w B r):AW w.drew B r:=h.below ((Zk _ _).drew)
theorem Du.drew {b g:Nat}(h:Du w w' b g):Du w w'.drew b g:=⟨h.os,h.tape,h.output,h.size,h.block⟩
theorem Vv (w:World)(B:Nat)(r:Aq)(st:Int)(h:AW w B r) :
  Calls prog 228 #[.pointer (some ⟨r.b,0,none⟩), .int .i64 st] w fun e w'=>e= .returned (.tuple #[])/\AW w' B (r.ended st)/\Du w w' r.b r.ng:=by
 obtain⟨⟨c0,c1,c2⟩,L⟩:=h.CP;have f1:=L 1;have V:=Zz (h.Mg st);obtain⟨_,_,T,S,_,_⟩:=h.Bi;have R:=h.Bs;obtain⟨m,hm⟩:∃m,m=r.ns.length:=⟨_,rfl⟩;rw[<-hm] at c2 T R;have M:=Zz hm;have HW:=Zz (Du.setB w r.b r.ng 1 (.int .i64 st));have d2:=V.o.CP.1.2.2;rw[show ({ r with st:=st }:Aq).ns.length=m from hm.symm] at d2;have d2:(w.setCell ⟨r.b,1,none⟩ (.int .i64 st)).cell? ⟨r.b,2,none⟩=some (.slice (some ⟨r.ng,0,none⟩) m r.nc):=d2;clear h hm c0 S L
 go_enter func228,ntmps228
 go_wp2_with fail
 go_loopw [15] (fun U wr=>∃i:Nat,U= .int .i64 i/\i<=m/\AW wr B (r.Cr st i)/\Du w wr r.b r.ng) (fun U _=>m - (intOf U).toNat)
 case atStart=>exact⟨0,rfl,by omega,by rw[r.PR];exact V.o,HW.o⟩
 case round =>
  obtain⟨i,rfl,hi,a,K⟩:=hrel;have C:=Zz (Zq a K);clear c1 c2 d2 f1;by_cases I:i<m
  ·obtain⟨⟨c0,c1,c2⟩,L⟩:=a.CP
   have s:i<r.ns.length:=by have:=M.o;omega
   have c:i<(r.Cr st i).ns.length:=by rw[r.CQ];exact s
   have t:=a.nd c
   have c2:wr.cell? ⟨r.b,2,none⟩=some (.slice (some ⟨r.ng,0,none⟩) m r.nc):=by
    have e:(r.Cr st i).ns.length=m:=by rw[r.CQ];exact M.o.symm
    rw[<-e];exact c2
   have D:(r.Cr st i).at_ i=r.at_ i:=by rw[Aq.GH s,if_neg (by omega)]
   rw[D] at t;have t:NdC wr r.ng (i * 10) (r.at_ i):=t;obtain⟨t0,t1,t2,t3,t4,t5,t6,t7,t8,t9⟩:=t;have z:∀j,wr.frozen? ⟨r.ng,i * 10+j,none⟩=false:=fun j=>a.AE _;have z0:wr.frozen? ⟨r.ng,i * 10,none⟩=false:=a.AE (i * 10);have z1:=z 1;have z2:=z 2;have z3:=z 3;have z4:=z 4;have z5:=z 5;have z6:=z 6;have z7:=z 7;have z8:=z 8;have z9:=z 9;have A:=fun v=>a.FQ (k:=i) (j:=7) (f:=fun n=>{ n with st:=v }) (v:= .int .i64 v) c (by omega) rfl ⟨rfl,rfl,rfl⟩
   have p:=Zz (Zq D (Zq A (Zq s c)));have i1:(i:Int)<(m:Int):=by omega
   have i2:i<m:=I;clear z A D s c L a K c0 c1
   generalize hn:r.at_ i=n at *
   by_cases q:n.st=5
   ·have g5:decide (n.st=5)=true:=decide_eq_true q
    have O:(n.st != 5)=false:=by simp[q]
    have G:=Zz q;rw[q] at t7
    go_upto_region 7 with fail
    go_region
    all_goals
     go_wp2_with fail
     go_roundw
     case rel =>
      have J:n.over=⟨0,0,0,0,0,0,none,0,[],5,n.tries,0⟩:=by unfold Cl.over Kt;rw[G.o];rfl
      obtain⟨k1,k2⟩:=C.o.1.QT (w':=wr.setCells (r.Cr st i).ng (i * 10) (NC n.over)) p.o.2.2.2 n.over ⟨rfl,rfl,rfl⟩ rfl;have y:=Aq.Ge (st:=st) p.o.2.2.1;rw[hn] at y;rw[<-y] at k1;rw[J] at k1 k2;exact⟨i+1,by go_num,by omega,k1.drew,(C.o.2.trans k2).drew⟩
     case measure=>simp[intOf];omega
   ·by_cases E:n.st=6
    ·have g5:decide (n.st=5)=false:=decide_eq_false q
     have G:=Zz E;rw[E] at t7;clear q E g5
     go_upto_region 7 with fail
     go_region
     all_goals
      go_wp2_with fail
      go_roundw
      case rel =>
       have J:n.over=⟨0,0,0,0,0,0,none,0,[],6,n.tries,0⟩:=by unfold Cl.over Kt;rw[G.o];rfl
       obtain⟨k1,k2⟩:=C.o.1.QT (w':=wr.setCells (r.Cr st i).ng (i * 10) (NC n.over)) p.o.2.2.2 n.over ⟨rfl,rfl,rfl⟩ rfl;have y:=Aq.Ge (st:=st) p.o.2.2.1;rw[hn] at y;rw[<-y] at k1;rw[J] at k1 k2;exact⟨i+1,by go_num,by omega,k1.drew,(C.o.2.trans k2).drew⟩
      case measure=>simp[intOf];omega
    ·have g5:decide (n.st=5)=false:=decide_eq_false q
     have g6:decide (n.st=6)=false:=decide_eq_false E;have O:(n.st == 5)=false:=by simpa using q
     have ae:(n.st == 6)=false:=by simpa using E
     have G:=Zz (Zq q E);have l:AW (wr.setCell ⟨r.ng,i * 10+7,none⟩ (.int .i64 7)) B _:=p.o.2.1 7;have N:=Zz l;have W:(n.st != 5)=true:=by simpa using q
     have X:(n.st != 6)=true:=by simpa using E
     clear l
     go_upto_region 7 with fail
     obtain⟨F,u⟩:∃F,F=wr.setCell ⟨r.ng,i * 10+7,none⟩ (.int .i64 7):=⟨_,rfl⟩;rw[<-u];have H:=N.o;rw[<-u] at H;have g:i<((r.Cr st i).BE i (fun n=>{ n with st:=7 })).ns.length:=by rw[Aq.AU];exact p.o.2.2.2
     have d:=H.nd g;have x:((r.Cr st i).BE i (fun n=>{ n with st:=7 })).at_ i={ n with st:=7 }:=by rw[Aq.Ca _ _ _ _ p.o.2.2.2,if_pos rfl,p.o.1]
     rw[x] at d;have d:NdC F r.ng (i * 10) { n with st:=7 }:=d;obtain⟨t0,t1,t2,t3,t4,t5,t6,t7,t8,t9⟩:=d;have z:∀j,F.frozen? ⟨r.ng,i * 10+j,none⟩=false:=fun j=>H.AE _;have z0:F.frozen? ⟨r.ng,i * 10,none⟩=false:=H.AE (i * 10);have z1:=z 1;have z2:=z 2;have z3:=z 3;have z4:=z 4;have z5:=z 5;have z6:=z 6;have z7:=z 7;have z8:=z 8;have z9:=z 9;have Y:=Zz (Zq H (Zq g u));clear z H g x u
     go_region
     all_goals
      go_wp2_with fail
      go_roundw
      case rel =>
       obtain⟨u1,u2,u3⟩:=Y.o;have J:n.over=⟨0,0,0,0,0,0,none,0,[],7,n.tries,0⟩:=by unfold Cl.over Kt;rw[if_neg (fun h=>h.elim G.o.1 G.o.2)]
       obtain⟨k1,k2⟩:=u1.QT (w':=F.setCells (r.Cr st i).ng (i * 10) (NC n.over)) u2 n.over ⟨rfl,rfl,rfl⟩ rfl;have y:=Aq.Ge (st:=st) p.o.2.2.1;rw[hn] at y;rw[Fu _ _ _ _ p.o.2.2.2,<-y] at k1;rw[J] at k1 k2;have k0:Du w F r.b r.ng:=by rw[u3];exact C.o.2.trans (Du.Ey wr r.b r.ng _ _)
       exact⟨i+1,by go_num,by omega,k1.drew,(k0.trans k2).drew⟩
      case measure=>simp[intOf];omega
  ·have e:i=m:=by omega
   have Z:=Zz e;have i1:¬(i:Int)<(m:Int):=by omega
   clear e I;go_wp2_with fail
   go_end0
   have I:=C.o.1;rw[Z.o,M.o,r.Ly] at I;exact⟨rfl,I,C.o.2⟩
def Aq.free (r:Aq)(k:Nat):Bool:=(r.at_ k).st == 1&&(r.at_ k).af.all (fun a=>(r.at_ a.toNat).st == 5)
def Aq.DJ (r:Aq)(i:Nat):List Nat:=(List.range i).filter r.free
def Aq.awake (r:Aq):List Nat:=r.DJ r.ns.length
theorem Aq.Gi (r:Aq)(i:Nat):r.DJ (i+1)=r.DJ i++(if r.free i then [i] else []):=by
 unfold Aq.DJ;rw[List.range_succ,List.filter_append]
 congr 1
 cases h:r.free i<;>simp[h]
theorem Aq.SS (r:Aq)(i:Nat):(r.DJ i).length<=i:=Zv (List.length_filter_le _ _) (by simp)
def QA (l:List Nat):List Value:=l.map (fun (k:Nat)=> .int .i64 (k:Int))
def Aq.within (r:Aq):Prop:=∀k,k<r.ns.length->(r.at_ k).af.length<=1000/\∀a∈(r.at_ k).af,0<=a/\a<r.ns.length
theorem Vs:(prog.info? 3).map (fun i=>(i.zero,i.size,i.bytes))=some (some (.int .i64 0),1,8):=by kernel_rfl
theorem NJ.cell {n:Cl}(h:NJ w B n)(d:j<n.af.length):∃g,n.aa=some ⟨g,0,none⟩/\w.cell? ⟨g,j,none⟩=some (.int .i64 (n.af.getD j 0))/\n.af.length<=n.ac/\g<w.heap.size:=by
 have a:w.ownsRow B 3 1 (.slice n.aa n.af.length n.ac) n.af.length (afV n.af):=h;rcases a.2 with⟨_,b⟩ | ⟨g,cap,cur,b,hg,hh,e,f,i,l⟩
 ·omega
 ·obtain⟨c,_,m⟩:n.aa=some ⟨g,0,none⟩/\n.af.length=n.af.length/\n.ac=cap:=by simpa using b
  rw[c] at a;refine⟨g,c,?_,by omega,(Array.getElem?_eq_some_iff.1 hh).1⟩;rw[a.cellAt j (by omega)];unfold afV;rw[List.getElem?_map,ZZ d,ZQ,ZZ d];rfl
theorem Js {l:List Int}(a:j<l.length):l.getD j 0∈l:=by
 rw[ZQ,ZZ a];exact List.getElem_mem a
theorem SV {r:Aq}(c:(r.at_ k).st=1)(h:∀j,j<(r.at_ k).af.length->(r.at_ ((r.at_ k).af.getD j 0).toNat).st=5):r.free k=true:=by
 unfold Aq.free;rw[Bool.and_eq_true,List.all_eq_true];refine⟨by simpa using c,fun a d=> ?_⟩;obtain⟨j,b,rfl⟩:=List.getElem_of_mem d;have:=h j b;rw[ZQ,ZZ b] at this;simpa using this
theorem Qc {r:Aq}(b:j<(r.at_ k).af.length)(h:(r.at_ ((r.at_ k).af.getD j 0).toNat).st≠5):r.free k=false:=by
 unfold Aq.free
 have:(r.at_ k).af.all (fun a=>(r.at_ a.toNat).st == 5)=false:=by
  rw[List.all_eq_false];exact⟨_,Js b,by simpa using h⟩
 rw[this,Bool.and_false]
theorem SU {r:Aq}(h:(r.at_ k).st≠1):r.free k=false:=by
 unfold Aq.free;have:((r.at_ k).st == 1)=false:=by simpa using h
 rw[this,Bool.false_and]
theorem news1K (W:World)(N:Nat)(x:Value)(t:TypeId)(a:N=W.heap.size)(j:Nat)(u:Value)(h:[x][j]? =some u):(W.alloc (.cells #[x] t)).cell? ((⟨N,0,none⟩:Addr).add j)=some u:=by
 subst a
 cases j with
 | zero=>simp at h;subst h;simp[Addr.add,World.cell?_alloc_at]
 | succ j=>simp at h
theorem Sr (w:World)(B:Nat)(r:Aq)(h:AW w B r)(az:r.within) :
  Calls prog 154 #[.pointer (some ⟨r.b,0,none⟩)] w fun e w'=>∃a c,e= .returned (.slice a r.awake.length c)/\w'.ownsRow w.heap.size 3 1 (.slice a r.awake.length c) r.awake.length (QA r.awake)/\Below w.heap.size w w':=by
 have H:=Zz h;have V:=Zz az;have HB:=Zz (Zk w.heap.size w);obtain⟨⟨c0,c1,c2⟩,_⟩:=h.CP;obtain⟨_,_,ct,cr,_,_⟩:=h.Bi;have br:=h.Bs;obtain⟨m,hm⟩:∃m,m=r.ns.length:=⟨_,rfl⟩;rw[<-hm] at c2 ct br;have HM:=Zz hm;obtain⟨i3,ax,bf,bh,bj⟩:=info_parts Vs;have HI:=Zz (Zq ax (Zq bf (Zq bh bj)));clear h az hm c0 c1 cr ax bf bh bj
 go_enter func154,ntmps154
 go_wp2_with fail
 go_step3
 go_wp2_with fail
 go_step3
 go_wp2_with fail
 go_loopg [3,13] m (fun gk U iv wr=>∃(i:Nat) (O:Option Addr) (R:Nat),gk=m - i/\iv= .int .i64 i/\U= .slice O (r.DJ i).length R/\i<=m/\wr.ownsRow w.heap.size 3 1 (.slice O (r.DJ i).length R) (r.DJ i).length (QA (r.DJ i))/\Below w.heap.size w wr)
 case atStart=>exact⟨0,none,0,rfl,rfl,rfl,by omega,World.ownsRow_nil _ _ _ _,HB.o⟩
 case round =>
  obtain⟨i,O,R,rfl,rfl,rfl,hi,F,ar⟩:=hrel;have d:=Zz (Zq F ar);obtain⟨q,hq⟩:∃q,q=(r.DJ i).length:=⟨_,rfl⟩;have dd:q<=i:=by rw[hq];exact r.SS i
  have S:=Zz hq;rw[<-hq];clear F ar hq;by_cases h1:i<m
  ·have D:i<r.ns.length:=by have:=HM.o;omega
   have hR:=H.o.below d.o.2;have cu:=hR.nd D;obtain⟨t0,t1,t2,t3,t4,t5,t6,t7,t8,t9⟩:=cu;have G:=Zz (H.o.ID i D);have Z:=Zz (V.o i D);have b9:=(V.o i D).1;obtain⟨n,hn⟩:∃n,n=r.at_ i:=⟨_,rfl⟩;have W:=Zz hn;rw[<-hn] at t0 t1 t2 t3 t4 t5 t6 t7 t8 t9 G Z b9;obtain⟨z,hz⟩:∃z,z=n.af.length:=⟨_,rfl⟩;have HZ:=Zz hz;rw[<-hz] at t6 b9;have i1:(i:Int)<(m:Int):=by omega
   clear hn hz hR D;by_cases q1:n.st=1
   ·have J:=Zz q1
    rw[q1] at t7;obtain⟨A,hA⟩:∃A,A=n.aa:=⟨_,rfl⟩;rw[<-hA] at t6;have bo:=Zz hA
    have bw:A=none\/∃g,A=some ⟨g,0,none⟩:=by
     have h':w.ownsRow B 3 1 (.slice n.aa n.af.length n.ac) n.af.length (afV n.af):=G.o;rcases h'.2 with⟨T,_⟩ | ⟨g,cap,cur,T,_⟩
     ·exact Zu (by rw[hA];simpa using congrArg (fun v=>match v with | Value.slice x _ _=>x | _=>none) T)
     ·exact Zj ⟨g,by rw[hA];simpa using congrArg (fun v=>match v with | Value.slice x _ _=>x | _=>none) T⟩
    clear q1 hA;rcases bw with rfl | ⟨g,rfl⟩
    all_goals
     go_wp2_with fail
     go_loopg [25] z (fun gj jv N=>∃j:Nat,gj=z - j/\jv= .int .i64 j/\j<=z/\Below wr.heap.size wr N/\∀t,t<j->(r.at_ (n.af.getD t 0).toNat).st=5)
     case atStart=>exact⟨0,rfl,rfl,by omega,(Zk _ _).alloc (Zx _) _,fun t ht=>by omega⟩
     case round =>
      obtain⟨j,rfl,rfl,hj,au,C⟩:=hrel
      rename World=>N
      have y:=Zz au;have HD:=Zz C;clear C au;by_cases T:j<z
      ·obtain⟨g2,ag,f,cm,aw⟩:=G.o.cell (j:=j) (by have:=HZ.o;omega)
       rw[<-bo.o] at ag
       cases ag
       all_goals
        obtain⟨ck,ae⟩:=Z.o.2 _ (Js (j:=j) (by have:=HZ.o;omega));obtain⟨an,L⟩:∃an:Nat,n.af.getD j 0=(an:Int):=⟨(n.af.getD j 0).toNat,by omega⟩;rw[L] at f ae;have E:Below w.heap.size w N:=d.o.2.trans' y.o;have y0:=(World.cell?_of_block (a:=⟨g,j,none⟩) (E.block g aw)).trans f;have K:=H.o.below E;obtain⟨⟨d0,d1,d2⟩,_⟩:=K.CP;rw[<-HM.o] at d2;have aj:an<r.ns.length:=by omega
        have s7:=(K.nd aj).c7;have HY:=Zz (Zq E L);obtain⟨U,M⟩:∃U,U=(r.at_ an).st:=⟨_,rfl⟩;rw[<-M] at s7;have Y:=Zz M;have j1:(j:Int)<(z:Int):=by omega
        have a1:(an:Int)<(m:Int):=by have:=HM.o;omega
        have db:z<=n.ac:=by have:=HZ.o;omega
        clear f aw ck ae K aj E L M cm d0 d1;by_cases q5:U=5
        ·subst q5
         go_wp2_with fail
         go_roundg (z - (j+1))
         case rel=>exact⟨j+1,rfl,by go_num,by omega,y.o,fun t ht=>by
          by_cases e:t=j
          ·subst e;rw[HY.o.2,Int.toNat_natCast];exact Y.o.symm
          ·exact HD.o t (by omega)⟩
         case measure=>omega
        ·have g5:(U != 5)=true:=by simpa using q5
         have bp:=Zz q5;go_wp2_with fail
         go_roundg (m - (i+1))
         case rel =>
          have hf:r.free i=false:=Qc (j:=j) (by rw[<-W.o,<-HZ.o];exact T) (by rw[<-W.o,HY.o.2,Int.toNat_natCast,<-Y.o];exact bp.o);have s:=r.Gi i;rw[hf] at s;simp only[Bool.false_eq_true,if_false,List.append_nil] at s;refine⟨i+1,O,R,rfl,by go_num,by rw[s,<-S.o],by omega,by rw[s];exact Zam d.o.1 y.o,HY.o.1⟩
         case measure=>omega
      ·have e:j=z:=by omega
       have HE:=Zz e;have j1:¬(j:Int)<(z:Int):=by omega
       have av:r.free i=true:=SV (by rw[<-W.o];exact J.o) (fun t ht=>by rw[<-W.o] at ht ⊢;exact HD.o t (by have:=HE.o;have:=HZ.o;omega));have s:=r.Gi i;rw[av] at s;simp only[if_true] at s;have HS:=Zz s;have I:=Zz (Zam d.o.1 y.o);rw[<-S.o] at I;have da:w.heap.size<=N.heap.size:=(d.o.2.trans' y.o).size;clear e T s av;go_wp2_with (at_builtin;refine wpList_append_own _ rfl (.tmp 39) (.tmp 41) 24 rfl w.heap.size 3 i3 (.int .i64 0) 1 8 underlying24 HI.o.1 HI.o.2.1 HI.o.2.2.1 HI.o.2.2.2 rfl (by decide) (.slice O q R) q (QA (r.DJ i)) rfl (I.o.alloc _) ⟨N.heap.size,0,none⟩ 1 1 [.int .i64 i] rfl rfl (news1K _ _ _ _ rfl) (by intro u hu;simp only[List.mem_singleton] at hu;subst hu;rfl) (by unfold maxLen;omega) (by omega) (by simp;omega) ?_;intro de w4 l p ay;clear ay;obtain⟨xb,xd,rfl⟩:=Zaz l;have X:=Zz (Zq l p);clear l p)
       go_roundg (m - (i+1))
       case rel =>
        have h4:=X.o.1;have cy:N.heap.size+1=(N.alloc (.cells #[.int .i64 i] 3)).heap.size:=by simp
        have cq:Below w.heap.size w w4:=by
         refine (((d.o.2.trans' y.o).alloc da _).grown X.o.2 (by rw[<-cy];omega) (fun k hk=> ?_));exact (I.o.lt k hk).1
        refine⟨i+1,xb,xd,rfl,by go_num,by rw[HS.o,ZX,<-S.o];rfl,by omega,?_,cq⟩;rw[HS.o,ZX,<-S.o];unfold QA;rw[List.map_append];exact h4
       case measure=>omega
   ·have g1:(n.st != 1)=true:=by simpa using q1
    have dc:(n.st == 1)=false:=by simpa using q1
    have J:=Zz q1;go_wp2_with fail
    go_roundg (m - (i+1))
    case rel =>
     have hf:r.free i=false:=SU (by rw[<-W.o];exact J.o);have s:=r.Gi i;rw[hf] at s;simp only[Bool.false_eq_true,if_false,List.append_nil] at s;have al:Below wr.heap.size wr (wr.alloc (.cells #[.int .i64 n.bu, .int .i64 n.cl, .int .i64 n.be, .int .i64 n.ba, .int .i64 n.ca, .int .i64 n.ji, .slice n.aa z n.ac, .int .i64 n.st, .int .i64 n.tries, .int .u64 n.tok] 276)):=(Zk _ _).alloc (Zx _) _;refine⟨i+1,O,R,rfl,by go_num,by rw[s,<-S.o],by omega,by rw[s];exact Zam d.o.1 al,d.o.2.trans' al⟩
    case measure=>omega
  ·have e:i=m:=by omega
   have HE:=Zz e;have i1:¬(i:Int)<(m:Int):=by omega
   clear e h1;go_wp2_with fail
   try rw[Exit.noGoto_ret]
   go_ret
   have ha:r.awake=r.DJ i:=by unfold Aq.awake;rw[<-HM.o,HE.o]
   rw[ha];exact⟨O,R,by rw[<-S.o];rfl,d.o.1,d.o.2⟩
def Aq.JM (r:Aq)(a:Nat):Bool:=(r.at_ a).st == 6||(r.at_ a).st == 7
structure Iy (w:World)(bx rb:Nat):Prop where
 b:w.cell? ⟨bx,0,none⟩=some (.pointer (some ⟨rb,0,none⟩))
 bl:bx<w.heap.size
theorem Iy.below {c rb:Nat}(h:Iy w c rb)(d:Below w.heap.size w w'):Iy w' c rb:=⟨(World.cell?_of_block (a:=⟨c,0,none⟩) (d.block c h.bl)).trans h.b,Zy h.bl d.size⟩
theorem VJ (w:World)(B p:Nat)(r:Aq)(k:Nat)(h:AW w B r)(t:Iy w p r.b)(q:k<r.ns.length) :
  Calls prog 272 #[.int .i64 k, .pointer (some ⟨p,0,none⟩)] w fun e w'=>e= .returned (.bool (r.JM k))/\Below w.heap.size w w':=by
 obtain⟨⟨c0,c1,c2⟩,_⟩:=h.CP;obtain⟨_,_,f,c,_,_⟩:=h.Bi;have t7:=(h.nd q).c7;have x:=t.b;have d:(k:Int)<(r.ns.length:Int):=by omega
 have a:=h.Bs;obtain⟨m,hm⟩:∃m,m=r.ns.length:=⟨_,rfl⟩;rw[<-hm] at c2 f d a q;obtain⟨s,g⟩:∃s,s=(r.at_ k).st:=⟨_,rfl⟩;rw[<-g] at t7;have e:r.JM k=(s == 6||s == 7):=by unfold Aq.JM;rw[<-g]
 rw[e];clear e h t c0 c1 c g hm;by_cases i:s=6
 ·subst i
  go_enter func272,ntmps272
  go_wp2_with fail
  go_ret
  exact⟨rfl,Zk _ _⟩
 ·have g6:(s == 6)=false:=by simpa using i
  have u:decide (s=6)=false:=by simpa using i
  by_cases l:s=7
  ·subst l
   go_enter func272,ntmps272
   go_wp2_with fail
   go_ret
   exact⟨rfl,Zk _ _⟩
  ·have g7:(s == 7)=false:=by simpa using l
   have v:decide (s=7)=false:=by simpa using l
   have n:=Zz (Zq g6 g7)
   go_enter func272,ntmps272
   go_wp2_with fail
   go_ret
   exact⟨by rw[n.o.1,n.o.2];rfl,Zk _ _⟩
theorem Vo (w:World)(B L:Nat)(r:Aq)(n:Cl)(h:AW w B r)(X:Iy w L r.b)(y:NJ w B n)(p:n.af.length<=1000/\∀a∈n.af,0<=a/\a<r.ns.length) :
  Calls prog 255 #[.slice n.aa n.af.length n.ac, .func (.func 272) #[] #[.pointer (some ⟨L,0,none⟩)]] w fun e w'=>(∃x:Int,e= .returned (.int .i64 x)/\(0<=x↔n.af.any (fun a=>r.JM a.toNat)=true))/\Below w.heap.size w w':=by
 obtain⟨z,J⟩:∃z,z=n.af.length:=⟨_,rfl⟩;have S:=p.1;rw[<-J] at S;have H:=Zz (Zq h (Zq X (Zq y (Zq p J))));have Y:=Zz (Zk w.heap.size w);rw[<-J];clear h X p J;obtain⟨A,u⟩:∃A,A=n.aa:=⟨_,rfl⟩
 have N:A=none\/∃g,A=some ⟨g,0,none⟩:=by
  have h':w.ownsRow B 3 1 (.slice n.aa n.af.length n.ac) n.af.length (afV n.af):=y;rcases h'.2 with⟨M,_⟩ | ⟨g,cap,cur,M,_⟩
  ·exact Zu (by rw[u];simpa using congrArg (fun v=>match v with | Value.slice x _ _=>x | _=>none) M)
  ·exact Zj ⟨g,by rw[u];simpa using congrArg (fun v=>match v with | Value.slice x _ _=>x | _=>none) M⟩
 rw[<-u];have K:=Zz u;clear u y;rcases N with rfl | ⟨g,rfl⟩
 all_goals
  go_enter func255,ntmps255
  go_wp2_with fail
  go_loopw [8] (fun T wr=>∃i:Nat,T= .int .i64 i/\i<=z/\Below w.heap.size w wr/\∀j,j<i->r.JM (n.af.getD j 0).toNat=false) (fun T _=>z - (intOf T).toNat)
  case atStart=>exact⟨0,rfl,by omega,Y.o,by omega⟩
  case round =>
   obtain⟨j,rfl,hj,E,I⟩:=hrel;have d:=Zz E;have s:=Zz I;clear I E;by_cases U:j<z
   ·obtain⟨g2,D,c,R,G⟩:=H.o.2.2.1.cell (j:=j) (by have:=H.o.2.2.2.2;omega)
    rw[<-K.o] at D;obtain⟨O,C⟩:=H.o.2.2.2.1.2 _ (Js (j:=j) (by have:=H.o.2.2.2.2;omega));obtain⟨an,m⟩:∃an:Nat,n.af.getD j 0=(an:Int):=⟨(n.af.getD j 0).toNat,by omega⟩;rw[m] at c C;have V:z<=n.ac:=by have:=H.o.2.2.2.2;omega
    cases D
    all_goals
     have y0:=(World.cell?_of_block (a:=⟨g,j,none⟩) (d.o.block g G)).trans c;have HL:=Zz (VJ wr B L r an (H.o.1.below d.o) (H.o.2.1.below d.o) (by omega));have q:=Zz m;have j1:(j:Int)<(z:Int):=by omega
     clear c R G O C m
     cases hf:r.JM an with
     | true =>
      rw[hf] at HL;have HF:=Zz hf;clear hf;go_wp2_with (go_at_call 272;refine HL.o.mono ?_;rintro e w3 ⟨rfl,f⟩;have l:=Zz f;clear f)
      go_ret
      refine⟨⟨j,rfl,⟨fun _=> ?_,fun _=>by omega⟩⟩,d.o.trans' l.o⟩;rw[List.any_eq_true];exact⟨_,Js (j:=j) (by have:=H.o.2.2.2.2;omega),by rw[q.o,Int.toNat_natCast];exact HF.o⟩
     | false =>
      rw[hf] at HL;have HF:=Zz hf;clear hf;go_wp2_with (go_at_call 272;refine HL.o.mono ?_;rintro e w3 ⟨rfl,f⟩;have l:=Zz f;clear f)
      go_roundw
      case rel=>exact⟨j+1,by go_num,by omega,d.o.trans' l.o,fun t W=>by
       by_cases e:t=j
       ·subst e;rw[q.o,Int.toNat_natCast];exact HF.o
       ·exact s.o t (by omega)⟩
      case measure=>simp[intOf];omega
   ·have j1:¬(j:Int)<(z:Int):=by omega
    have Z:=Zz U;clear U;go_wp2_with fail
    go_ret
    refine⟨⟨-1,rfl,⟨fun h=>absurd h (by decide),fun h=> ?_⟩⟩,d.o⟩
    try rw[List.any_eq_true] at h
    obtain⟨a,y,F⟩:=h;obtain⟨t,W,rfl⟩:=List.getElem_of_mem y;have:=s.o t (by have:=Z.o;have:=H.o.2.2.2.2;omega);rw[ZQ,ZZ W] at this;simp only[Option.getD_some] at this;rw[this] at F
    cases F
theorem Uz (w:World)(B i:Nat)(r:Aq)(n:Cl)(h:AW w B r)(g:Iy w i r.b)(p:NJ w B n)(f:n.af.length<=1000/\∀a∈n.af,0<=a/\a<r.ns.length) :
  Calls prog 186 #[.slice n.aa n.af.length n.ac, .func (.func 272) #[] #[.pointer (some ⟨i,0,none⟩)]] w fun e w'=>e= .returned (.bool (n.af.any (fun a=>r.JM a.toNat)))/\Below w.heap.size w w':=by
 have q:=Zz (Vo w B i r n h g p f);clear h g p f
 generalize n.af.length=z at *
 go_enter func186,ntmps186
 go_wp2_with (go_at_call 255;refine q.o.mono ?_;rintro e s ⟨⟨x,rfl,g⟩,d⟩;have c:=Zz (Zq g d);clear g d)
 go_ret
 refine⟨?_,c.o.2⟩;have m:=c.o.1
 cases l:n.af.any (fun a=>r.JM a.toNat) with
 | true=>have:=m.2 l;simp[this]
 | false =>
  have:¬0<=x:=fun h=>by rw[m.1 h] at l;cases l
  simp[this]
def Aq.lost (r:Aq)(k:Nat):Bool:=(r.at_ k).st == 1&&(r.at_ k).af.any (fun a=>r.JM a.toNat)
def skM (n:Cl):Cl:={ n with st:=7 }
inductive Uh:Aq->Aq->Prop
 | refl (r:Aq):Uh r r
 | step (r r2:Aq) (k:Nat):Uh r r2->k<r2.ns.length->r2.lost k=true->Uh r (r2.BE k skM)
def Aq.shut (r:Aq):Prop:=∀k,k<r.ns.length->r.lost k=false
theorem Uh.same {a b:Aq}(h:Uh a b):b.b=a.b/\b.id=a.id/\b.st=a.st/\b.ng=a.ng/\b.nc=a.nc/\b.ns.length=a.ns.length/\∀k,k<a.ns.length->(b.at_ k).aa=(a.at_ k).aa/\(b.at_ k).ac=(a.at_ k).ac/\(b.at_ k).af=(a.at_ k).af:=by
 induction h with
 | refl=>exact⟨rfl,rfl,rfl,rfl,rfl,rfl,fun _ _=>⟨rfl,rfl,rfl⟩⟩
 | step r2 k d e f c =>
  obtain⟨i1,i2,i3,i4,i5,i6,i7⟩:=c;refine⟨i1,i2,i3,i4,i5,by rw[Aq.AU];exact i6,fun m hm=> ?_⟩;rw[Aq.Ca _ _ _ _ (by omega)]
  split
  ·exact i7 m hm
  ·exact i7 m hm
theorem Uh.within {a b:Aq}(h:Uh a b)(f:a.within):b.within:=by
 obtain⟨_,_,_,_,_,d,e⟩:=h.same;intro k c;rw[d] at c ⊢;rw[(e k c).2.2];exact f k c
def Aq.waits (r:Aq):Nat:=r.ns.countP (fun n=>n.st == 1)
theorem JK {p:Cl->Bool}{f:Cl->Cl}:∀(l:List Cl) (k:Nat),k<l.length->p (l.getD k .z)=true->p (f (l.getD k .z))=false->(l.modify k f).countP p+1=l.countP p
 | [],k,h,_,_=>by simp at h
 | s::l,0,_,h1,h2=>by
  simp only[List.getD_cons_zero] at h1 h2;rw[List.modify_zero_cons,List.countP_cons_of_neg (by simp[h2]),List.countP_cons_of_pos (by simp[h1])]
 | s::l,k+1,h,h1,h2=>by
  simp only[List.getD_cons_succ] at h1 h2;have:=JK l k (by simpa using h) h1 h2;rw[List.modify_succ_cons,List.countP_cons,List.countP_cons];omega
theorem Aq.Rd {r:Aq}(b:k<r.ns.length)(h:r.lost k=true):(r.BE k skM).waits<r.waits:=by
 have a:(r.at_ k).st=1:=by
  unfold Aq.lost at h;simp only[Bool.and_eq_true,beq_iff_eq] at h;exact h.1
 have:=JK (p:=fun n=>n.st == 1) (f:=skM) r.ns k b (by show (r.at_ k).st == 1;rw[a];rfl) rfl;unfold Aq.waits Aq.BE;show (r.ns.modify k skM).countP _<_;omega
end Go.Proofs.YtgdcjccbdmcebaaGreatDoor
