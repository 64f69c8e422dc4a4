import Derived.Test.YtgdcjccbdmcebaaGreatDoorM29
set_option linter.unusedSimpArgs false
set_option linter.unusedVariables false
set_option maxHeartbeats 16000000
set_option maxRecDepth 100000
namespace Go.Proofs.YtgdcjccbdmcebaaGreatDoor
open Tryz
open Go.RowKit
attribute [local go_sem ↓] Go.wp_at_zero Go.wp_at_succ
variable {l:List Tm}{e:Ab}{ob:Option Nat}{rs:List Aq}{d:CH}{w w':World}{wd:Nat->Nat}{k n P B:Nat}{t:Int}
def Mp (e:Ab)(d:CH)(l:List Tm):Prop:=Bn l/\∀t,t∈l↔BF e t/\t.id≠(e.DU d).id
theorem Mp.toE (h:Mp e d l)(hn:d.k=none):XV e d.i l:=by
 refine⟨h.1,fun t a=>((h.2 t).1 a).1,fun t a c=>(h.2 t).2 ⟨a,fun b=>c ⟨-1,0,by omega,by omega,?_⟩⟩⟩;rw[b];unfold Ab.DU Ab.kindOf EW;rw[hn]
theorem Mp.toW (wk:Ao e)(h:Mp e d l)(hn:d.k=some k)(hi:d.i<e.runs.length)(p:k<(e.at_ d.i).steps.length)(o:((e.at_ d.i).at_ k).st=4)(f:d.sign=false):Mr e d.i [k] l:=by
 have c:(e.DU d).id=Bb (e.at_ d.i).id k 3:=by
  unfold Ab.DU Ab.kindOf EW;rw[hn];simp[o,f]
 refine⟨h.1,fun t=> ?_⟩;rw[h.2,c];constructor
 ·rintro⟨a,b⟩
  refine⟨a,fun m hm q=> ?_⟩;rw[List.mem_singleton] at hm;subst hm;rcases (a.node wk hi p q).2 with⟨g,_⟩ | ⟨_,g⟩ | ⟨g,_⟩
  ·omega
  ·exact b (by rw[g])
  ·omega
 ·rintro⟨a,b⟩
  exact⟨a,fun j=>b k (List.mem_singleton.2 rfl) ⟨3,by omega,by omega,j⟩⟩
theorem Mp.toN (h:Mp e d l)(hn:d.k=some k)(c:((e.at_ d.i).at_ k).st=3):Uq e d.i k l:=by
 refine⟨h.1,fun t a=>((h.2 t).1 a).1,fun t a f=>(h.2 t).2 ⟨a,fun b=>f ?_⟩⟩
 have:(e.DU d).id=Bb (e.at_ d.i).id k (if d.sign then 2 else 1):=by
  unfold Ab.DU Ab.kindOf EW;rw[hn];simp[c]
 rw[this] at b;exact⟨if d.sign then 2 else 1,by split<;>omega,by split<;>omega,b⟩
theorem Qn (wk:Ao e)(f:BA e d){r nd q:Int}(a:BM r nd q (e.DU d).id):r=(e.at_ d.i).id/\nd=EW d.k/\q=e.kindOf d:=by
 obtain⟨hi,j,b⟩:=f;have c:=wk.IQ hi
 have hn: -1<=EW d.k/\EW d.k<15:=by
  cases h:d.k with
  | none=>exact⟨by decide,by decide⟩
  | some k =>
   rw[h] at b;have:=b.1;show -1<=(k:Int)/\(k:Int)<15;omega
 have g:0<=e.kindOf d/\e.kindOf d<4:=by
  unfold Ab.kindOf
  split
  ·exact⟨by decide,by decide⟩
  ·split
   ·exact⟨by decide,by decide⟩
   ·split<;>exact⟨by decide,by decide⟩
 have:=DK (a.e.symm.trans rfl) ⟨a.n0,a.n1⟩ hn ⟨a.q0,a.q1⟩ g;exact this
theorem Vc (wk:Ao e)(hl:rs.length=e.runs.length)(hi:∀i,i<e.runs.length->Br (Am rs i) (e.at_ i)){i:Nat}(h:i<e.runs.length):JN rs (e.at_ i).id=some i :=
 Gh (by omega) (hi i h).id (fun j a x=>by
  have:=wk.CA (by omega) h ((hi j (by omega)).id.symm.trans x);omega)
theorem MF (a:e.time=d.tm)(hn:d.k=none):e.Ar d=e.end_ d.i 5:=by
 have:({ e with time:=max e.time d.tm }:Ab)=e:=by rw[<-a,Int.max_self]
 unfold Ab.Ar;simp only;rw[this,hn]
theorem GL (a:e.time=d.tm)(hn:d.k=some k):e.Ar d=if ((e.at_ d.i).at_ k).st=4 then e.ready d.i k else e.AT d.i k:=by
 have:({ e with time:=max e.time d.tm }:Ab)=e:=by rw[<-a,Int.max_self]
 unfold Ab.Ar;simp only;rw[this,hn]
theorem OH (w:World)(P B:Nat)(ob:Option Nat)(e:Ab)(rs:List Aq)(l:List Tm)(d:CH)(r nd q at_:Int)(h:Cj w P B ob e rs l)(wk:Ao e)(hd:BA e d)(R:e.time=d.tm)(Q:Mp e d l)(hk:BM r nd q (e.DU d).id)(ae:e.Ah<18446744073709551616)(au:0<=e.At/\e.At<18446744073709551616) :
  Calls prog 160 #[.pointer (some ⟨P,4,none⟩), .agg #[.int .u64 r, .int .i64 nd, .int .i64 q], .int .u64 at_] w fun x w'=>x= .returned (.tuple #[])/\∃p T f,Cj w' P B f (e.Ar d) p T/\BS rs p/\Be (e.Ar d) T/\KF w w' P B ob/\As w ob f:=by
 obtain⟨kr,kn,S⟩:=Qn wk hd hk;have N:=hd;obtain⟨hi,X,A⟩:=hd;obtain⟨s,G⟩:∃s,s=w.alloc (.cells #[.int .u64 r, .int .i64 nd, .int .i64 q] 288):=⟨_,rfl⟩;obtain⟨bx,M⟩:∃bx,bx=w.heap.size:=⟨_,rfl⟩;have aj:=Zz (show Dr s bx r nd q by rw[G,M];exact GB w r nd q);have L:Below w.heap.size w s:=by rw[G];exact (Zk _ _).alloc (Zx _) _
 have C:=Zz (h.below L);have V:=Zz L;obtain⟨el,now,hM,av,ar⟩:=C.o.ex;obtain⟨ka,kc,Z⟩:=hM.kn;have u:=GK s P B kc ka rs r Z;rw[kr,Vc wk h.len h.runs hi] at u
 have v:Calls prog 157 #[.pointer (some ⟨P,4,none⟩), .int .u64 r] s fun e w'=>e= .returned (.pointer (some ⟨(Am rs d.i).b,0,none⟩))/\w'=s:=by
  rw[kr];exact u
 have J:=Zz v
 have Y:∀(w':World) (f:Option Nat),KF s w' P B ob->As s ob f->KF w w' P B ob/\As w ob f:=fun w' f g1 g2=>⟨(KF.Ae P B ob V.o).trans g1 (As.refl _ _),fun z hz=>by
  rcases g2 z hz with h | h
  ·exact Zu h
  ·right;have:=V.o.size;omega⟩
 have K:=Zz Y;have y:=Zz (Zq M G);clear Y u v Z hM av ar h M G L;obtain⟨⟨z0,z1⟩,z2⟩:=aj.o
 cases a:d.k with
 | none =>
  have HH:=Zz (MF R a);obtain rfl:q=0:=by rw[S];unfold Ab.kindOf;rw[a]
  have HE:=Zz (JZ s P B ob e rs l d.i 5 C.o wk hi X (by omega) (Q.toE a) ae);clear R a kr kn S N A hi X Q hk
  go_enter func160,ntmps160
  go_upto_region 1 with fail
  rw[<-y.o.1,<-y.o.2]
  go_wp2_with (first
   | (go_at_call 157;refine J.o.mono ?_;rintro _ U ⟨rfl,E⟩;rw[E])
   | (go_at_call 158;refine HE.o.mono ?_;rintro _ w2 ⟨rfl,I⟩;have W:=Zz I;clear I))
  go_end0
  obtain⟨p,T,f,q1,q2,q3,q4,q5⟩:=W.o;rw[HH.o];exact⟨rfl,p,T,f,q1,q2,q3,K.o _ _ q4 q5⟩
 | some k =>
  rw[a] at A;obtain⟨D,A⟩:=A;have ag:nd=(k:Int):=by rw[kn,a];rfl
  have H:=wk.IQ hi;by_cases F:((e.at_ d.i).at_ k).st=4
  ·have HH:=Zz (show e.Ar d=e.ready d.i k by rw[GL R a,if_pos F])
   have O:d.sign=false:=by
    unfold AM.due at A
    split at A
    ·omega
    ·rename_i c;simpa using c
   obtain rfl:q=3:=by rw[S];unfold Ab.kindOf;rw[a];simp[F,O]
   have HR:=Zz (fun (U:World) (g c:Nat) (hb:Below s.heap.size s U) (hc:1<=c) (hg:g≠P) (hh:U.heap[g]? =some (.cells #[.int .i64 (k:Int)] 3 (0,0))) =>
    Kc U P B ob e rs l d.i c (some ⟨g,0,none⟩) [k] (C.o.below hb) wk hi X ⟨by simp,fun m hm=>by rw[List.mem_singleton] at hm;subst hm;exact⟨D,Zj F⟩⟩ (Q.toW wk a hi D F O) (Zj ⟨g,_,rfl,hg,hc,hh,fun j hj=>by
     obtain rfl:j=0:=by simpa using hj
     rfl⟩))
   have al:=Zz (show P<s.heap.size by obtain⟨_,_,hM,_⟩:=C.o.ex;exact hM.pl);clear R a kr kn S N A hi X Q hk D F O H;subst ag
   go_enter func160,ntmps160
   go_upto_region 1 with fail
   rw[<-y.o.1,<-y.o.2]
   go_wp2_with (first
    | (go_at_call 157;refine J.o.mono ?_;rintro _ U ⟨rfl,E⟩;rw[E])
    | (go_at_call 153;refine (HR.o _ s.heap.size 1 ((Zk _ _).alloc (Zx _) _) (Zx _) (by have:=al.o;omega) (heap_alloc_new s _)).mono ?_;rintro _ w2 ⟨rfl,I⟩;have W:=Zz I;clear I))
   go_end0
   obtain⟨p,q1,q2,q3,q4,q5,q6⟩:=W.o;rw[HH.o];exact⟨rfl,p,l,ob,q1,q2,q3,K.o _ _ ((KF.Ae P B ob ((Zk _ _).alloc (Zx _) _)).trans q6 (As.refl _ _)) (As.refl _ _)⟩
  ·have HH:=Zz (show e.Ar d=e.AT d.i k by rw[GL R a,if_neg F])
   have h3:((e.at_ d.i).at_ k).st=3:=by
    unfold AM.due at A
    split at A
    ·exact A.1
    ·exact A.1.resolve_right F
   have HF:=Zz (LO s P B ob e rs l d.i k C.o wk hi D h3 (Q.toN a h3) ae au)
   have hq:q=1\/q=2:=by
    rw[S];unfold Ab.kindOf;rw[a];simp only
    split
    ·exact Zj rfl
    ·first | exact Zu rfl | (rw[if_neg F];exact Zu rfl)
   clear R a kr kn S N A hi X Q hk D F H h3;subst ag;rcases hq with rfl | rfl
   all_goals
    go_enter func160,ntmps160
    go_upto_region 1 with fail
    rw[<-y.o.1,<-y.o.2]
    go_wp2_with (first
     | (go_at_call 157;refine J.o.mono ?_;rintro _ U ⟨rfl,E⟩;rw[E])
     | (go_at_call 156;refine HF.o.mono ?_;rintro _ w2 ⟨rfl,I⟩;have W:=Zz I;clear I))
    go_end0
    obtain⟨p,T,f,q1,q2,q3,q4,q5⟩:=W.o;rw[HH.o];exact⟨rfl,p,T,f,q1,q2,q3,K.o _ _ q4 q5⟩
open Go.RowKit
theorem GD:∀(f x:Nat),0<x->x<2 ^ f->Lib.ctzFrom f x<f/\x.testBit (Lib.ctzFrom f x)=true/\∀j,j<Lib.ctzFrom f x->x.testBit j=false
 | 0,x,h0,h=>by simp at h;omega
 | f+1,x,h0,h=>by
  unfold Lib.ctzFrom;by_cases e:x % 2=1
  ·rw[if_pos e]
   exact⟨by omega,by simp[Nat.testBit_zero,e],fun j c=>by omega⟩
  ·rw[if_neg e]
   have hp:2 ^ (f+1)=2 * 2 ^ f:=by rw[Nat.pow_succ];omega
   obtain⟨g,a,b⟩:=GD f (x / 2) (by omega) (by omega);refine⟨by omega,by rw[Nat.add_comm,Nat.testBit_succ];exact a,fun j c=> ?_⟩
   cases j with
   | zero=>simp[Nat.testBit_zero,e]
   | succ j=>rw[Nat.testBit_succ];exact b j (by omega)
theorem UM (x:Nat)(a:x≠0)(h:x<18446744073709551616):Lib.ctz 64 x<64/\x.testBit (Lib.ctz 64 x)=true/\∀j,j<Lib.ctz 64 x->x.testBit j=false:=by
 unfold Lib.ctz;rw[if_neg a];exact GD 64 x (by omega) (by omega)
theorem fst_of {L s:Nat}(hw:Words wd (Zag n l))(h:FstW wd L s true):L<11/\s<64/\Fst n l (L * 64+s):=by
 rcases h with⟨h,_⟩ | ⟨_,g,m,c,rfl⟩
 ·cases h
 ·obtain⟨i,f⟩:=hw L g
  obtain⟨c1,c2,c3⟩:=UM (wd L) c i;refine⟨g,c1,fun j o=> ?_,(f _ c1).1 c2⟩;by_cases e:j / 64=L
  ·have a:=(f (j % 64) (by omega))
   rw[show L * 64+j % 64=j by omega] at a;have:=c3 (j % 64) (by omega);rw[this] at a;by_cases b:Zag n l j=[]
   ·exact b
   ·exact absurd (a.2 b) (by simp)
  ·have a:=((hw (j / 64) (by omega)).2 (j % 64) (by omega))
   rw[show j / 64 * 64+j % 64=j by omega,m (j / 64) (by omega)] at a;by_cases b:Zag n l j=[]
   ·exact b
   ·exact absurd (a.2 b) (by simp)
theorem YV {L s:Nat}(hw:Words wd (Zag n l))(c:CR n l)(hn:n<=4611686018427387904)(h:FstW wd L s false):l=[]:=by
 rcases h with⟨_,_,_,f⟩ | ⟨h,_⟩
 ·refine no_fst c hn (fun j g=> ?_)
  have b:=((hw (j / 64) (by omega)).2 (j % 64) (by omega));rw[show j / 64 * 64+j % 64=j by omega,f (j / 64) (by omega)] at b;by_cases a:Zag n l j=[]
  ·exact a
  ·exact absurd (b.2 a) (by simp)
 ·cases h
def Tp (n:Nat)(l:List Tm)(k:Nat):List Tm:=l.filter (fun t=>pl n t.tm.toNat == k)
theorem OV (n:Nat)(l:List Tm)(k:Nat):Zag n l k=(Tp n l k).map (·.id):=rfl
theorem MO {i:Nat}(hi:i<(Tp n l k).length):∃j,j<l.length/\l.getD j .z=(Tp n l k).getD i .z/\pl n ((Tp n l k).getD i .z).tm.toNat=k:=by
 have h:=Zcd hi;obtain⟨a,b⟩:=List.mem_filter.1 h;obtain⟨j,c,e⟩:=Qy a;exact⟨j,c,e,by simpa using b⟩
theorem CG.onward {g:Int}{c:Ab}(h:CG g { e with time:=t } c)(m:e.time<=t)(i:∀d,BA e d->t<=d.tm):CG g e c:=by
 obtain⟨e',a⟩:∃e',e'=({ e with time:=t }:Ab):=⟨_,rfl⟩;rw[<-a] at h
 cases h with
 | none _ hn=>subst a;exact .none e hn
 | step _ _ b f hle j =>
  subst a;refine .step e c b f hle ?_;have o:=i _ (Zd5 (e:=e) f).1
  have:({ e with time:=t }:Ab).Ar (e.AR.getD b .z)=e.Ar (e.AR.getD b .z):=by
   unfold Ab.Ar;have:max t (e.AR.getD b .z).tm=max e.time (e.AR.getD b .z).tm:=by omega
   simp only;rw[this]
   rfl
  rw[<-this];exact j
theorem MG (e:Ab)(d:CH):(e.Ar d).time=max e.time d.tm/\(e.Ar d).Ah=e.Ah/\(e.Ar d).At=e.At:=by
 unfold Ab.Ar
 split
 ·exact⟨rfl,rfl,rfl⟩
 ·split
  ·exact⟨rfl,rfl,rfl⟩
  ·unfold Ab.AT
   simp only
   split
   ·exact⟨rfl,rfl,rfl⟩
   ·unfold Ab.settle
    split
    ·exact⟨rfl,rfl,rfl⟩
    ·exact⟨rfl,rfl,rfl⟩
theorem Sb {n:Nat}(hn:n<=4611686018427387904):∀l:List Tm,CR n l->todo n l<=l.length * 704
 | [],_=>by simp[todo]
 | t::r,h=>by
  have b:=Sb hn r (fun x a=>h x (by simp[a]));have c:=(h t (by simp));have f:=Wy n t.tm.toNat hn (by omega);simp only[todo,List.length_cons,Nat.add_mul];omega
theorem Cj.time (h:Cj w P B ob e rs l):∃now:Nat,e.time=(now:Int)/\Bf w P B Ck now l:=by
 obtain⟨el,now,a,b,_⟩:=h.ex;exact⟨now,b,a.wh⟩
theorem Ab.QU (e:Ab)(h:e.time=t):({ e with time:=t }:Ab)=e:=by rw[<-h]
theorem Cj.Dm (h:Cj w P B ob e rs l)(hf:PF w w' P B Ck){m:Nat}{a:List Tm}(hw:Bf w' P B Ck m a):Cj w' P B ob { e with time:=(m:Nat) } rs a:=by
 obtain⟨el,now,b,i,is,c,f,g⟩:=h.ex;exact⟨⟨el,m,b.Dm hf hw,rfl,is,c,f,g⟩,h.len,h.runs⟩
theorem Bf.KJ {m:Nat}{K:Nat->Prop}(h:Bf w P B K n l)(hp:∀t∈l,pl m t.tm.toNat=pl n t.tm.toNat)(g:CR m l)(hm:m<=4611686018427387904):Bf (w.setCell ⟨P,11,none⟩ (.int .u64 m)) P B K m l:=by
 obtain⟨f,Bz,wd,b,a,hw⟩:=h.mem;have e:Zag m l=Zag n l:=by funext j;exact Hd hp j
 refine⟨⟨f,Bz,wd,by rw[e];exact b.KJ m,a.kept (fun k es c i _=>Zl w ⟨P,11,none⟩ _ k (by simp;have:=b.pb;omega)),by rw[e];exact hw⟩,hm,h.Bs,g,h.ids,h.apart⟩
theorem Be.NO (h:Be e l)(b:∀x∈l,t<=x.tm):∀d,BA e d->t<=d.tm:=fun d a=>b _ (h.all d (Zar.2 a))
theorem Be.drop_ (h:Be e l)(c:Bj l){b:Nat}(a:b<l.length)(f:e.DU d=l.getD b .z):Mp e d (l.take b++l.drop (b+1)):=by
 rw[Zbc] at h;refine⟨h.1.cut a,fun t=> ?_⟩;rw[Rw a c,h.2,f]
open Go.RowKit
attribute [local go_sem ↓] Go.wp_at_zero Go.wp_at_succ
structure Py (w:World)(P B:Nat)(ob:Option Nat)(e:Ab)(rs:List Aq)(tt n:Nat)(ej:Ab)(rj:List Aq)(lj:List Tm)(oj:Option Nat)(wr:World):Prop where
 x:Cj wr P B oj ej rj lj
 TV:Be ej lj
 ok:Ak ej
 now:ej.time=(n:Int)
 le:n<=tt
 goes:∀e2,CG tt ej e2->CG tt e e2
 sb:BS rs rj
 kf:KF w wr P B ob
 MY:As w ob oj
 Je:AL wr
 lr:ej.Ah=e.Ah
 sd:ej.At=e.At
theorem AL.at_ (h:AL w)(hf:w'.heap[2]? =w.heap[2]?):AL w':=fun j b=>(World.cell?_of_block (a:=⟨2,j,none⟩) hf).trans (h j b)
theorem AL.kf (h:AL w)(hf:KF w w' P B ob)(a:2<B)(b:2≠P):AL w' :=
 h.at_ (hf.block _ (World.block_lt_of_cell? _ _ (h 0 (by decide))) b (Zu a))
theorem Py.Dm {wr:World}{g:Option Nat}{j:Ab}{o:List Aq}{i m:Nat}{c:List Tm}(h:Py w P B ob e rs i n j o c g wr)(hf:PF wr w' P B Ck)(hw:Bf w' P B Ck m c)(u:n<=m)(q:m<=i)(v:m<=4611686018427387904)(s:∀x∈c,(m:Int)<=x.tm)(r:2<B)(f:2≠P):Py w P B ob e rs i m { j with time:=(m:Nat) } o c g w':=by
 have a:=h.TV.NO s;have b:=KF.DN hf g;exact⟨h.x.Dm hf hw,h.TV.same rfl,h.ok.Fi (by rw[h.now];omega) (by omega) a,rfl,q,fun p he=>h.goes p (he.onward (by rw[h.now];omega) a),h.sb,h.kf.trans b h.MY,h.MY,h.Je.kf b r f,h.lr,h.sd⟩
theorem MH (w:World)(P B:Nat)(ob:Option Nat)(e:Ab)(rs:List Aq)(l:List Tm)(u:Int)(h:Cj w P B ob e rs l)(hT:Be e l)(ok:Ak e)(ep:AL w)(hG:2<B)(b9:2≠P)(h0:0<=u)(h1:u<18446744073709551616)(jy:e.Ah<18446744073709551616)(k9:0<=e.At/\e.At<18446744073709551616) :
  Calls prog 159 #[.pointer (some ⟨P,11,none⟩), .int .u64 u, .func (.func 160) #[.pointer (some ⟨P,4,none⟩)] #[]] w fun x w'=>x= .returned (.tuple #[])/\∃e2 jm l' jl,BU e u e2/\Cj w' P B jl e2 jm l'/\BS rs jm/\Be e2 l'/\KF w w' P B ob/\As w ob jl:=by
 obtain⟨now,dh,A⟩:=h.time;obtain⟨Z,au⟩:∃Z:Nat,e.Hm u=(Z:Int):=⟨(e.Hm u).toNat,by have:=A.MV;unfold Ab.Hm;split<;>omega⟩;have jg:now<=Z:=by have:=A.MV;unfold Ab.Hm at au;split at au<;>omega
 have eg:Z<=4611686018427387904:=by have:=A.MV;unfold Ab.Hm at au;split at au<;>omega
 have e1:IntKind.u64.wrap (4611686018427387904 - (now:Int))=4611686018427387904 - (now:Int):=by have:=A.MV;rw[IntKind.wrap_u64];omega
 have e2:IntKind.u64.wrap ((now:Int)+min u (4611686018427387904 - (now:Int)))=(Z:Int):=by
  have:=A.MV;rw[IntKind.wrap_u64,<-au];unfold Ab.Hm;rw[dh]
  split<;>omega
 have c0:=A.now0;have iu:=Zz (show Py w P B ob e rs Z now e rs l ob w from⟨h,hT,ok,dh,jg,fun _ h=>h,BS.refl _,KF.refl _ _ _ _,As.refl _ _,ep,rfl,rfl⟩);have iy:=Zz au;clear h hT ok ep A dh au
 go_enter func159,ntmps159
 go_wp2_with fail
 go_region
 all_goals
  have jq:Hid (Py w P B ob e rs Z now e rs l ob w.drew):=Zz (by
   have hI:=iu.o;have U:Below w.heap.size w w.drew:=(Zk _ _).drew;exact { hI with x:=hI.x.below U,kf:=KF.Ae P B ob U,Je:=fun j hj=>hI.Je j hj })
  clear c0 e1 e2;go_wp2_with fail
  go_loopg [7] (e.load * 200000+todo now l) (fun gk _ wr=>∃(n:Nat) (ej:Ab) (rj:List Aq) (f:List Tm) (oj:Option Nat),gk=ej.load * 200000+todo n f/\Py w P B ob e rs Z n ej rj f oj wr)
  case atStart=>exact⟨now,e,rs,l,ob,rfl,jq.o⟩
  case round =>
   obtain⟨n,ej,rj,f,oj,rfl,hrel⟩:=hrel;have T:=Zz hrel;clear hrel
   have A:Bf wr P B Ck n f:=by
    obtain⟨n',q1,q2⟩:=T.o.x.time;obtain rfl:n=n':=by have:=T.o.now;omega
    exact q2
   have N:=Zz A;obtain⟨j5,gx,gz,gm,ct,gv⟩:=A.mem;have ey:=SN wr P B Ck n j5 gx (Zag n f) gz gm (fun j hj=>(gv j hj).1) T.o.Je;have HF:=Zz ey;have M:=Zz (Zq gm (Zq ct gv));have jz:=A.MV;have ar:=T.o.le;clear A gm ct gv ey
   go_upto_region 2 with (go_at_call 231;refine HF.o.mono ?_;rintro e w1 ⟨L,s,ok,rfl,da,ke⟩;rw[ke])
   have km:=Zz da;have c0:=M.o.1.c0;have f0:=M.o.1.fz 11
   cases ok with
   | false =>
    have de:=Zz (YV M.o.2.2 N.o.later jz da);clear da;go_wp2_with fail
    refine bodyPost_ret (results_none rfl _ _ _) rfl ?_;have hl:=de.o;subst hl;have hR:=T.o.Dm (PF.Bt wr P B Ck 11 (.int .u64 Z) (by omega)) (N.o.KJ (m:=Z) (fun t ht=>by cases ht) (fun t ht=>by cases ht) eg) ar (Zx _) eg (fun x hx=>by cases hx) hG b9;refine⟨rfl,{ ej with time:=(Z:Nat) },rj,[],oj,?_,hR.x,hR.sb,hR.TV,hR.kf,hR.MY⟩;unfold BU;rw[iy.o];refine hR.goes _ (.none _ (fun b U=> ?_));have:=hR.TV.none rfl;rw[this] at U
    cases U
   | true =>
    obtain⟨j6,fh,ee⟩:=fst_of M.o.2.2 da;obtain⟨k,hk⟩:∃k,k=L * 64+s:=⟨_,rfl⟩;obtain⟨st,dp⟩:∃st,st=start n k:=⟨_,rfl⟩;rw[<-hk] at ee;obtain⟨b1,b2,b3⟩:=SW N.o.later ee;rw[<-dp] at b1 b2 b3;have S:∀wx:World,wx.cell? ⟨P,11,none⟩=some (.int .u64 n)->Calls prog 232 #[.pointer (some ⟨P,11,none⟩), .int .i64 L, .int .i64 s] wx fun e w'=>e= .returned (.int .u64 (start n (L * 64+s)))/\∃q,w'=wx.drewN q:=fun wx cx=>TR wx P n L s cx (by omega) (by omega) fh (by rw[<-hk,<-dp];omega)
    rw[<-hk,<-dp] at S;have fy:=Zz S;have G:=Zz (Zq ee (Zq b3 (Zq hk dp)));clear da ee b3 hk dp S;by_cases h2:Z<st
    ·go_wp2_with (go_at_call 232;refine (fy.o wr c0).mono ?_;rintro e w2 ⟨rfl,q,rfl⟩)
     refine bodyPost_ret (results_none rfl _ _ _) rfl ?_;have hS:=G.o;have dy:Below wr.heap.size wr (wr.drewN q):=below_drewN wr q;have kh:Bf (wr.drewN q) P B Ck n f:=N.o.Aj dy;have hR:=T.o.Dm ((PF.Ae dy).trans (PF.Bt _ P B Ck 11 (.int .u64 Z) (by omega))) (kh.KJ (m:=Z) (fun t ht=>Ub hS.1 ar (by rw[<-hS.2.2.2];exact h2) ht) (fun t ht=>⟨by have:=hS.2.1 t ht;omega,(N.o.later t ht).2⟩) eg) ar (Zx _) eg (fun x hx=>by have:=hS.2.1 x hx;omega) hG b9;refine⟨rfl,{ ej with time:=(Z:Nat) },rj,f,oj,?_,hR.x,hR.sb,hR.TV,hR.kf,hR.MY⟩;unfold BU;rw[iy.o];refine hR.goes _ (.none _ (fun b U=> ?_));have:=hR.TV.NO (t:=st) hS.2.1 _ (Zd5 U).1;omega
    ·have g1:decide ((Z:Int)<(st:Int))=false:=decide_eq_false (by omega)
     go_upto_region 4 with (go_at_call 232;refine (fy.o wr c0).mono ?_;rintro e w2 ⟨rfl,q,rfl⟩)
     have dy:Below wr.heap.size wr (wr.drewN q):=below_drewN wr q
     go_upto_region 5 with (go_at_call 232;refine (fy.o (wr.drewN q) c0).mono ?_;rintro e w3 ⟨rfl,q2,rfl⟩)
     have bw:Below wr.heap.size wr (wr.drewN (q+q2)):=below_drewN wr _;have ae:=Zz ((M.o.1.Aj bw).KJ st);have jo:Hid (NK ((wr.drewN (q+q2)).setCell ⟨P,11,none⟩ (.int .u64 st)) B j5 f):=Zz (M.o.2.1.kept (fun k es c hk e=>(Zl (wr.drewN (q+q2)) ⟨P,11,none⟩ _ k (by simp;have:=M.o.1.pb;omega)).trans rfl));have fv:Hid (PF wr ((wr.drewN (q+q2)).setCell ⟨P,11,none⟩ (.int .u64 st)) P B Ck):=Zz ((PF.Ae bw).trans (PF.Bt _ P B Ck 11 _ (by omega)));clear dy bw c0 f0
     generalize (wr.drewN (q+q2)).setCell ⟨P,11,none⟩ (.int .u64 st)=w5 at *
     have aj:k<704:=by have:=G.o.2.2.1;omega
     rcases jo.o with⟨_,de⟩ | ⟨bm,D,rfl,gd,hm,hD⟩
     ·exfalso
      exact G.o.1.2 (by rw[de];rfl)
     have du:=Zz (Zq hm hD);have bp:=N.o.apart;have W:=N.o.ids;have ax:=N.o.later;have cy:=N.o.Bs;clear hm hD;by_cases dw:L=0
     ·obtain⟨b,U,C,bj,jj,r0,az,_⟩:=YB ax G.o.1 (by have:=G.o.2.2.1;omega)
      rw[<-G.o.2.2.2] at bj
      have I:Zag st f=Zag n f:=by
       funext j
       exact Hd (fun t ht=>by rw[G.o.2.2.2];exact VK G.o.1 (by have:=G.o.2.2.1;omega) ht) j
      obtain⟨id,V⟩:∃x,x=(f.getD b .z).id:=⟨_,rfl⟩;obtain⟨r,nd,qk,X⟩:∃r nd qk,BM r nd qk id:=⟨_,_,_,BM.of (by rw[V];exact W b U)⟩;obtain⟨i,hi,db,dc,hcut⟩:=Fe (n:=st) (tn:=st) U bp (by omega);rw[<-V] at db dc az;have gq:=ae.o;rw[<-I] at gq;have fj:Bf w5 P B Ck st f:=⟨⟨_,gx,gz,gq,Zj ⟨bm,D,rfl,gd,du.o⟩,by rw[I];exact M.o.2.2⟩,b2,cy,fun t ht=>⟨G.o.2.1 t ht,(ax t ht).2⟩,W,bp⟩;have eo:=Zz fj;obtain⟨a,c,hv⟩:=Zaz (ae.o.own k aj);have m1:=ae.o.at_ (L:=L) (s:=s) G.o.2.2.1.symm aj;obtain⟨nn,y⟩:∃nn,nn=(Zag n f k).length:=⟨_,rfl⟩;have jf:0<nn:=by rw[y,az];simp
      rw[<-y] at hv;rw[hv] at m1;have E:=ae.o.own k aj;rw[hv,<-y] at E
      have gh:∃g,a=some ⟨g,0,none⟩/\(w5.cell? ⟨g,0,none⟩=some (.int .u64 r)/\w5.cell? ⟨g,1,none⟩=some (.int .i64 nd))/\w5.cell? ⟨g,2,none⟩=some (.int .i64 qk):=by
       rcases E.2 with⟨_,e2⟩ | ⟨g,cap,cur,e2,_⟩
       ·omega
       ·obtain⟨e1,_,e3⟩:a=some ⟨g,0,none⟩/\nn=nn/\c=cap:=by simpa using e2
        subst e1;have e4:0<(Zag n f k).length:=by omega
        have e3:(Zag n f k).getD 0 0=id:=by rw[az];rfl
        refine⟨g,rfl,⟨?_,?_⟩,?_⟩
        ·have:=E.cellAt (0 * 3+0) (by omega)
         rw[Ef _ e4 (by omega),e3,Zc3 X] at this;exact this
        ·have:=E.cellAt (0 * 3+1) (by omega)
         rw[Ef _ e4 (by omega),e3,Zc3 X] at this;exact this
        ·have:=E.cellAt (0 * 3+2) (by omega)
         rw[Ef _ e4 (by omega),e3,Zc3 X] at this;exact this
      obtain⟨g,rfl,⟨x0,x1⟩,x2⟩:=gh;have g2:(L:Int)<11:=by omega
      have g3:(s:Int)<64:=by omega
      have g4:decide (0<L)=false:=decide_eq_false (by omega);have g5:(0:Int)<(nn:Int):=by omega
      have HB:=Zz (Zq U (Zq C (Zq bj (Zq I (Zq V (Zq hi (Zq hcut (Zq X (Zq db dc)))))))));have iw:=Zz dw;have ko:Hid (g<w5.heap.size):=Zz (E.lt g rfl).2;clear U C bj jj az I V hi db dc hcut gq hv E y dw fj X
      go_upto_region 8 with fail
      obtain⟨w6,F⟩:∃w6,w6=w5.alloc (.cells #[.int .u64 r, .int .i64 nd, .int .i64 qk] 288):=⟨_,rfl⟩;obtain⟨bx,ck⟩:∃bx,bx=w5.heap.size:=⟨_,rfl⟩;have fs:=Zz (show Dr w6 bx r nd qk by rw[F,ck];exact GB w5 r nd qk);have br:w6.heap[bx]? =some (.cells #[.int .u64 r, .int .i64 nd, .int .i64 qk] 288 (0,0)):=by rw[F,ck];exact heap_alloc_new w5 _
      have ie:Hid (Below w5.heap.size w5 w6):=Zz (by rw[F];exact (Zk _ _).alloc (Zx _) _);have iz:=Zz (eo.o.boxes (K:=fun z=>z=bx) ie.o (fun z hz=>by subst hz;exact⟨by omega,_,_,br⟩));have kj:=Zz br;rw[<-F,<-ck];have im:=Zz ck;obtain⟨⟨z0,z1⟩,z2⟩:=fs.o;clear F ck br x0 x1 x2 m1;obtain⟨kx,gy,ic,R,gi,dr⟩:=iz.o.mem;rcases gi with⟨_,de⟩ | ⟨jt,D6,rfl,eu,Q,gb⟩
      ·exfalso
       have:=HB.o.1;rw[de] at this;simp at this
      have kt:=Zz R;have ei:=Zz (Zq Q gb);have j4:=Zz dr;have cr:=Od w6 P B (fun z=>z=bx) st st gy (Zag st f) ic jt i D6 id r nd qk R Q eu HB.o.2.2.2.2.2.2.2.1 (by rw[HB.o.2.2.2.2.1,<-HB.o.2.2.1];exact gb.tm b HB.o.1) b2 b2 (fun j hj=>(dr j hj).1) (by have:=Zc1 st f (pl st st);omega) HB.o.2.2.2.2.2.1 HB.o.2.2.2.2.2.2.2.2.1 HB.o.2.2.2.2.2.2.2.2.2;have ft:=Zz cr;clear R Q gb dr cr
      go_upto_region 9 with (go_at_call 234;refine ft.o.mono ?_;rintro e w7 ⟨rfl,v',x',jh,hx,jd,ja⟩;have HN:=Zz (Zq jh (Zq hx (Zq jd ja)));clear jh hx jd ja)
      have jw:P≠bx:=by have:=ae.o.pb;have:=ae.o.bs;have:=im.o;omega
      have ig:=Zz (fs.o.at_ (HN.o.2.2.2.block bx fs.o.lt (Ne.symm jw) (Zu (Zj rfl))));obtain⟨⟨y0,y1⟩,y2⟩:=ig.o;have ku:=HN.o.1.c0;clear z0 z1 z2;obtain⟨U,C,bj,I,V,hi,hcut,X,db,dc⟩:=HB.o;obtain⟨cd,bf,cm⟩:=T.o.TV.best C;obtain⟨d,bh⟩:∃d,d=ej.AR.getD cd .z:=⟨_,rfl⟩;have av:=Zd5 bf;rw[<-bh] at cm av;have J:d.tm=(st:Int):=by rw[<-bj,<-cm];rfl
      obtain⟨O,v⟩:∃O,O=({ ej with time:=(st:Nat) }:Ab):=⟨_,rfl⟩;have fq:Bf w7 P B (fun z=>z=bx) st (f.take b++f.drop (b+1)):=Sh U (tn:=st) (by omega) b2 cy iz.o.later W bp ei.o.2 (ei.o.1.tidy Ih) eu j4.o hi hcut HN.o.1 HN.o.2.1 (by rw[<-V];exact HN.o.2.2.1);have H:PF wr w7 P B Ck:=(fv.o.trans (PF.Ae ie.o)).trans HN.o.2.2.2.Ud;have j8:Cj w7 P B oj O rj (f.take b++f.drop (b+1)):=by rw[v];exact T.o.x.Dm H fq.Ud
      have p:=T.o.Dm fv.o eo.o b1 (by omega) b2 G.o.2.1 hG b9;rw[<-v] at p;have ag:BA O d:=by rw[v];exact av.1
      have j7:Mp O d (f.take b++f.drop (b+1)):=p.TV.drop_ bp U (by rw[<-cm,v];rfl)
      have fc:BM r nd qk (O.DU d).id:=by
       have:(O.DU d).id=id:=by rw[V,<-cm,v];rfl
       rw[this];exact X
      have iq:=Zz (fun (wx:World) (U:Below w7.heap.size w7 wx)=>OH wx P B oj O rj _ d r nd qk st (j8.below U) p.ok.wk ag (by rw[v,J]) j7 fc (by rw[p.lr];exact jy) (by rw[p.sd];exact k9));have HD:=Zz (Zq H (Zq p (Zq ag (Zq v (Zq bf (Zq bh (Zq J av.2)))))));clear U C bj I V hi hcut X db dc bf cm bh av J v fq H j8 p ag j7 fc
      go_region_with (go_at_call 160;refine (iq.o _ ((Zk _ _).drew)).mono ?_;rintro _ w8 ⟨rfl,hx⟩;have js:=Zz hx;clear hx)
      all_goals go_wp2_with fail
      all_goals
       obtain⟨r8,l8,o8,gw,fi,gu,dd,fg⟩:=js.o;obtain⟨H,p,ag,v,bf,bh,J,fe⟩:=HD.o;have j9:Cv O.AR O.AR.length=some cd:=by rw[v];exact bf
       have cq:d=O.AR.getD cd .z:=by rw[bh,v];rfl
       have al:∀x,BA O x->d.tm<=x.tm:=fun x hx=>fe x (by rw[v] at hx;exact hx)
       have ay:=MG O d;have jb:=GV p.ok ag al;have jc:O.load=ej.load:=by rw[v];rfl
       have aw:=(KF.DN H oj).trans (KF.Ae P B oj ((Zk w7.heap.size w7).drew)) (As.refl _ _);have dj:=p.ok.Ar ag al;have je:(O.Ar d).time=(st:Int):=by rw[ay.1,p.now,J];exact Int.max_self _
       have bo:Hid (Py w P B ob e rs Z st (O.Ar d) r8 l8 o8 w8):=Zz (by
        refine⟨gw,gu,dj,je,by omega,fun e2 jx=>p.goes e2 (.step O e2 cd j9 (by rw[<-cq];omega) (by rw[<-cq];exact jx)),T.o.sb.trans fi,(T.o.kf.trans aw T.o.MY).trans dd T.o.MY,T.o.MY.trans fg ?_,(T.o.Je.kf aw hG b9).kf dd hG b9,by rw[ay.2.1,p.lr],by rw[ay.2.2,p.sd]⟩;exact (T.o.kf.trans aw T.o.MY).size)
       have fw:Hid ((O.Ar d).load * 200000+todo st l8<ej.load * 200000+todo n f):=Zz (by
        have kg:Bf w8 P B Ck st l8:=by
         obtain⟨n',q1,q2⟩:=gw.time;obtain rfl:st=n':=by omega
         exact q2
        have:=Sb b2 l8 kg.later;have:=gu.Bs dj.wk;have:=jb.1;omega)
       clear gw fi gu dd fg H p ag v bf bh J fe j9 cq al ay jb jc aw dj je
       go_roundg ((O.Ar d).load * 200000+todo st l8)
       case rel=>exact⟨st,_,_,_,_,rfl,bo.o⟩
       case measure=>exact fw.o
     ·have g4:decide (0<L)=true:=decide_eq_true (by omega)
      have iw:=Zz dw;clear dw;have ez:64<=k:=by have:=G.o.2.2.1;have:=iw.o;omega
      obtain⟨nn,y⟩:∃nn,nn=(Tp n f k).length:=⟨_,rfl⟩
      have jf:nn<=200:=by
       have:=Zc1 n f k;have e:(Zag n f k).length=nn:=by rw[OV,y];simp
       omega
      have jk:=QY w5 P B Ck st L s nn gx (Zag n f) gz bm D (Tp n f k) ae.o du.o.1 gd j6 fh M.o.2.2 (by rw[<-G.o.2.2.1];rfl) y
       (fun i hi=>by obtain⟨j,hj,e,_⟩:=MO (n:=n) (l:=f) (k:=k) (i:=i) (by omega);rw[<-e];exact W j hj)
       (fun i hi=>by obtain⟨j,hj,e,_⟩:=MO (n:=n) (l:=f) (k:=k) (i:=i) (by omega);rw[<-e];exact du.o.2.tm j hj)
       (fun i hi=>by obtain⟨j,hj,e,_⟩:=MO (n:=n) (l:=f) (k:=k) (i:=i) (by omega);rw[<-e];have:=ax _ (Zcd hj);omega)
       b2 (fun j=>by have:=Zc1 n f j;omega)
      have jr:=Zz jk;clear jk y;go_wp2_with (go_at_call 233;refine jr.o.mono ?_;rintro e w6 ⟨rfl,gy,ki,ic,R,Q,cu,F,Y⟩;have HN:=Zz (Zq R (Zq Q (Zq cu (Zq F Y))));clear R Q cu F Y)
      obtain⟨R,Q,cu,F,Y⟩:=HN.o
      have ju:ki=Zag st f:=by
       funext j
       rw[Y j,G.o.2.2.2,OB G.o.1 ez j,<-G.o.2.2.1]
       rfl
      subst ju;have fm:Bf w6 P B Ck st f:=⟨⟨_,gy,ic,R,Zj ⟨bm,D,rfl,gd,Q,du.o.2⟩,F⟩,b2,cy,fun t ht=>⟨G.o.2.1 t ht,(ax t ht).2⟩,W,bp⟩;have bo:=Zz (T.o.Dm (fv.o.trans cu) fm b1 (by omega) b2 G.o.2.1 hG b9)
      have fw:Hid (ej.load * 200000+todo st f<ej.load * 200000+todo n f):=Zz (by
       have:=TW G.o.1 ez;rw[<-G.o.2.2.2] at this;omega)
      clear R Q cu F Y fm
      go_roundg (ej.load * 200000+todo st f)
      case rel=>exact⟨st,{ ej with time:=(st:Nat) },_,_,_,rfl,bo.o⟩
      case measure=>exact fw.o
end Go.Proofs.YtgdcjccbdmcebaaGreatDoor
