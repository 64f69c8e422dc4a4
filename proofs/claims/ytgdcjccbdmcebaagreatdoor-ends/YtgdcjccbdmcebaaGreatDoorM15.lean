import Derived.Test.YtgdcjccbdmcebaaGreatDoorM13
import Derived.Test.YtgdcjccbdmcebaaGreatDoorM14
import Derived.Lib.IfaceEq
import Derived.BigRegion
import Derived.Test.YtgdcjccbdmcebaaGreatDoorRows
import Derived.ProofKit
import Derived.LaidHandle
import Derived.Lib.LaidTab
set_option linter.unusedSimpArgs false
set_option linter.unusedVariables false
set_option maxHeartbeats 4000000
set_option maxRecDepth 100000
open Go.Proofs.Tryz
namespace Go.Proofs.YtgdcjccbdmcebaaGreatDoor
open Go.RowKit
theorem AP.ge {F:Ad}{i:Nat}(h:AP F i):∀k:Nat,k<F.an i->(k:Int)<=F.af i k:=by
 intro k
 induction k with
 | zero=>intro a;exact (h 0 a).1
 | succ k c =>
  intro a;have d:=c (by omega);have b:=(h (k+1) a).2.2 (by omega);simp only[Nat.add_sub_cancel] at b;omega
theorem AP.Uv {F:Ad}{i:Nat}(h:AP F i):F.an i<=F.n:=by
 by_cases a:F.an i=0
 ·omega
 ·have b:=h.ge (F.an i - 1) (by omega)
  have c:=(h (F.an i - 1) (by omega)).2.1;omega
def Kk (F:Ad)(i:Nat):List Int :=
 (((((((Bo (F.bu i).toNat++Bo (F.cl i).toNat)++Bo (F.be i).toNat)++Bo (F.ba i).toNat)++Bo (F.ca i).toNat)++Bo (F.ji i).toNat)++Bo (F.an i))++Cy (fun k=>(F.af i k).toNat) (F.an i))
def CL (F:Ad):Nat->List Int
 | 0=>[]
 | k+1=>CL F k++Kk F k
def Zat (F:Ad):List Int:=(Bo F.dl.toNat++Bo F.n)++CL F F.n
structure Cp (F:Ad)(i:Nat) where
 bu:(F.bu i)=((F.bu i).toNat:Int)/\(F.bu i).toNat<=1048576
 cl:(F.cl i)=((F.cl i).toNat:Int)/\(F.cl i).toNat<=1048576
 be:(F.be i)=((F.be i).toNat:Int)/\(F.be i).toNat<=1048576
 ba:(F.ba i)=((F.ba i).toNat:Int)/\(F.ba i).toNat<=1048576
 ca:(F.ca i)=((F.ca i).toNat:Int)/\(F.ca i).toNat<=1048576
 ji:(F.ji i)=((F.ji i).toNat:Int)/\(F.ji i).toNat<=1048576
 an:F.an i<=12
 af:∀k,k<F.an i->F.af i k=((F.af i k).toNat:Int)/\(F.af i k).toNat<=12
theorem RI {F:Ad}{i:Nat}(f:Cc F)(h:AJ F i)(he:AP F i):Cp F i:=by
 obtain⟨t1,t2,t3,t4⟩:=f;have r:=he.Uv;obtain⟨g,j,l,m,n,o,p,q,a,b,c,d⟩:=h;refine⟨?_,?_,?_,?_,?_,?_,by omega,fun k e=> ?_⟩
 ·omega
 ·omega
 ·omega
 ·omega
 ·omega
 ·omega
 ·have:=he k e
  unfold CS at this;omega
theorem OS (f:Nat->Nat)(n:Nat)(hn:n<=12)(h:∀k,k<n->f k<=12):(Cy f n).length<=108:=by
 have:=LS f n fun k a=>by have:=h k a;omega
 omega
theorem Tt {F:Ad}{i:Nat}(h:Cp F i):(Kk F i).length<=171:=by
 have b:=Zax (n:=(F.bu i).toNat) (by have:=h.bu;omega);have c:=Zax (n:=(F.cl i).toNat) (by have:=h.cl;omega);have d:=Zax (n:=(F.be i).toNat) (by have:=h.be;omega);have e:=Zax (n:=(F.ba i).toNat) (by have:=h.ba;omega);have f:=Zax (n:=(F.ca i).toNat) (by have:=h.ca;omega);have g:=Zax (n:=(F.ji i).toNat) (by have:=h.ji;omega);have j:=Zax (n:=F.an i) (by have:=h.an;omega);have l:=OS (fun k=>(F.af i k).toNat) (F.an i) h.an fun k a=>(h.af k a).2;simp only[Kk,ZX];omega
theorem Kl {F:Ad}{k:Nat}(h:∀i,i<k->Cp F i):(CL F k).length<=171 * k:=by
 induction k with
 | zero=>simp[CL]
 | succ k a =>
  have b:=a fun i hi=>h i (by omega)
  have c:=Tt (h k (by omega));simp only[CL,ZX];omega
structure XN (w wr:World)(F:Ad)(a:Option Addr)(cap:Nat):Prop where
 b:wr.heap[w.heap.size]? =some (.cells #[.int .i64 F.dl, .slice a F.n cap] 61 (0,0))
 f:F8 w.heap.size w wr
theorem XN.start (w:World)(F:Ad)(a:Option Addr)(cap:Nat):XN w (w.alloc (.cells #[.int .i64 F.dl, .slice a F.n cap] 61)) F a cap :=
 ⟨heap_alloc_new _ _,(F8.refl _ _).alloc (Zx _) _⟩
theorem XN.Aj {w wr wx:World}{F:Ad}{a:Option Addr}{cap:Nat}(h:XN w wr F a cap)(c:F8 w.heap.size wr wx):XN w wx F a cap :=
 ⟨c.block h.b (by decide),h.f.trans c⟩
theorem XN.lt {w wr:World}{F:Ad}{a:Option Addr}{cap:Nat}(h:XN w wr F a cap):w.heap.size<wr.heap.size:=by
 obtain⟨c,_⟩:=Array.getElem?_eq_some_iff.1 h.b;exact c
def DW (wr:World)(g:Nat)(F:Ad)(k:Nat)(a:Option Addr)(c:Nat):Prop:=wr.heap[g]? =some (.cells (Zef F k a c).toArray 130 (0,0))
theorem DW.Aj {wr wx:World}{g:Nat}{F:Ad}{k:Nat}{a:Option Addr}{c B:Nat}(h:DW wr g F k a c)(b:F8 B wr wx):DW wx g F k a c:=F8.block b h (by decide)
theorem DW.cells {wr:World}{g:Nat}{F:Ad}{k:Nat}{a:Option Addr}{c:Nat}(h:DW wr g F k a c) :
  wr.cell? ⟨g,0,none⟩=some (.int .i64 (F.bu k))/\wr.cell? ⟨g,1,none⟩=some (.int .i64 (F.cl k))/\wr.cell? ⟨g,2,none⟩=some (.int .i64 (F.be k))/\wr.cell? ⟨g,3,none⟩=some (.int .i64 (F.ba k)) /\
  wr.cell? ⟨g,4,none⟩=some (.int .i64 (F.ca k))/\wr.cell? ⟨g,5,none⟩=some (.int .i64 (F.ji k))/\wr.cell? ⟨g,6,none⟩=some (.slice a (F.an k) c) :=
 ⟨Zad h 0,Zad h 1,Zad h 2,Zad h 3,Zad h 4,Zad h 5,Zad h 6⟩
def Wr (w:World)(b o:Nat):Prop:=(w.cell? ⟨b,o,none⟩).isSome=true/\w.frozen? ⟨b,o,none⟩=false
theorem Wr.set {w:World}{b o:Nat}(h:Wr w b o)(x:Addr)(v:Value):Wr (w.setCell x v) b o:=by
 obtain⟨c,d⟩:=h;refine⟨?_,by rw[World.frozen?_setCell];exact d⟩;obtain⟨u,hu⟩:=Option.isSome_iff_exists.1 c;obtain⟨e,a⟩:=cell?_setCell_some (w:=w) (p:=x) (x:=v) (q:=⟨b,o,none⟩) (v:=u) hu;rw[a]
 rfl
structure BH (B:Nat)(w:World)(F:Ad)(g k:Nat)(Na:Nat->Option Addr)(Nc:Nat->Nat):Prop where
 hg:B<=g
 wr:∀i,i<F.n->∀j,j<7->Wr w g (i * 7+j)
 af:∀i,k<=i->i<F.n->w.cell? ⟨g,i * 7+6,none⟩=some (.slice (Na i) (F.an i) (Nc i))
 it:∀i,i<F.n->F.an i=0\/∃ab,Na i=some ⟨ab,0,none⟩/\B<=ab/\ab≠g/\F.an i<=Nc i/\Nc i<=maxLen/\∀m,m<F.an i->Wr w ab m
theorem BH.set {B:Nat}{w:World}{F:Ad}{g k:Nat}{c:Nat->Option Addr}{d:Nat->Nat}(h:BH B w F g k c d){x:Addr}(r:x.block≠g)(v:Value):BH B (w.setCell x v) F g k c d :=
 ⟨h.hg,fun i hi j q=>(h.wr i hi j q).set x v,fun i a b=>(World.cell?_of_block (w:=w) (Zl w x v g (fun e=>r e.symm))).trans (h.af i a b),fun i hi=>by
  rcases h.it i hi with f | ⟨ab,a,b,l,n,o,p⟩
  ·exact Zu f
  ·exact Zj ⟨ab,a,b,l,n,o,fun m hm=>(p m hm).set x v⟩⟩
theorem BH.setNode {B:Nat}{w:World}{F:Ad}{g k k' i0 off:Nat}{d:Nat->Option Addr}{e:Nat->Nat}(h:BH B w F g k d e)(t:k<=k')(r:i0<k')(j:off<i0 * 7+7)(v:Value):BH B (w.setCell ⟨g,off,none⟩ v) F g k' d e :=
 ⟨h.hg,fun i hi s b=>(h.wr i hi s b).set _ v,fun i f a=>by
  have c:(⟨g,off,none⟩:Addr).off≠i * 7+6:=by simp;omega
  have:=h.af i (by omega) a;rw[<-this];exact Zac w g off (i * 7+6) v (by simpa using c),fun i hi=>by
  rcases h.it i hi with l | ⟨ab,f,a,n,o,p,q⟩
  ·exact Zu l
  ·exact Zj ⟨ab,f,a,n,o,p,fun m hm=>(q m hm).set _ v⟩⟩
theorem BH.below {B:Nat}{w w':World}{F:Ad}{g k:Nat}{f:Nat->Option Addr}{l:Nat->Nat}(h:BH B w F g k f l)(hn:k=0)(e:Below w.heap.size w w'):BH B w' F g k f l:=by
 have hw:∀b o,Wr w b o->Wr w' b o:=fun b o ⟨a,c⟩=>by
  obtain⟨u,hu⟩:=Option.isSome_iff_exists.1 a;have d:=World.block_lt_of_cell? _ _ hu;exact⟨by rw[e.cell (p:=⟨b,o,none⟩) d];exact a,by rw[e.frozen (p:=⟨b,o,none⟩) d];exact c⟩
 subst hn
 exact⟨h.hg,fun i hi j v=>hw _ _ (h.wr i hi j v),fun i a c=>(e.cell (p:=⟨g,i * 7+6,none⟩) (World.block_lt_of_cell? _ _ (h.af i a c))).trans (h.af i a c),fun i hi=>by
  rcases h.it i hi with n | ⟨ab,a,c,q,r,s,t⟩
  ·exact Zu n
  ·exact Zj ⟨ab,a,c,q,r,s,fun m hm=>hw _ _ (t m hm)⟩⟩
theorem An.turn {B:Nat}{w:World}{F:Ad}{g cap:Nat}{d:Nat->Option Addr}{f:Nat->Nat}(h:An B w F (.slice (some ⟨g,0,none⟩) F.n cap) F.n d f):BH B w F g 0 d f:=by
 have hn:=h.node;have y:∀i j:Nat,(0+i * 7+j)=i * 7+j:=fun i j=>by omega
 have o:∀i:Nat,(0+i * 7)=i * 7:=fun i=>by omega
 refine⟨h.lt.1,fun i hi j s=>⟨?_,h.own.frozenAt _⟩,fun i _ hi=>by have:=(hn i hi).af;rwa[o] at this,fun i hi=> ?_⟩
 ·rw[h.own.cellAt (i * 7+j) (by omega),Ik F d f F.n i j hi s]
  rcases (show j=0\/j=1\/j=2\/j=3\/j=4\/j=5\/j=6 by omega) with rfl | rfl | rfl | rfl | rfl | rfl | rfl<;>rfl
 ·by_cases p:F.an i=0
  ·exact Zu p
  ·have c:=h.ID i hi
   rcases c.2 with⟨_,k⟩ | ⟨ab,b,cur,k,r,hh,t,u,v,x⟩
   ·exact absurd k p
   ·obtain⟨l,_,q⟩:d i=some ⟨ab,0,none⟩/\F.an i=F.an i/\f i=b:=by simpa using k
    have a:=Il c h.own (by decide);rw[l] at a;rw[l,q] at c;refine Zj ⟨ab,l,r,?_,by omega,by omega,fun m hm=>⟨?_,c.frozenAt m⟩⟩
    ·rcases a with a | a
     ·simp[Value.ownBlock] at a
     ·intro e;apply a;simp[Value.ownBlock,e]
    ·rw[c.cellAt m (by omega),JV _ _ _ hm]
     rfl
structure NL (B:Nat)(w wx:World)(F:Ad)(g cap k:Nat)(Na:Nat->Option Addr)(Nc:Nat->Nat):Prop where
 at':BH B wx F g k Na Nc
 c1:wx.cell? ⟨w.heap.size,1,none⟩=some (.slice (some ⟨g,0,none⟩) F.n cap)
 sz:w.heap.size<wx.heap.size
 bl:Below B w wx
theorem NL.node {B:Nat}{w wx:World}{F:Ad}{g cap k k':Nat}{c:Nat->Option Addr}{d:Nat->Nat}(h:NL B w wx F g cap k c d)(e:g<w.heap.size)(i0 off:Nat)(f:k<=k')(b:i0<k')(a:off<i0 * 7+7)(v:Value) :
  NL B w (wx.setCell ⟨g,off,none⟩ v) F g cap k' c d :=
 ⟨h.at'.setNode f b a v,(World.cell?_of_block (w:=wx) (Zl wx ⟨g,off,none⟩ v w.heap.size (by simp;omega))).trans h.c1,by simpa[World.setCell] using h.sz,h.bl.setCell h.at'.hg v⟩
theorem Mk (F:Ad)(a:Option Addr)(cap:Nat)(w:World)(hn:F.n=0) :
  Calls prog 65 #[Ex F.dl (.slice a F.n cap)] w fun e w'=>e= .returned (.tuple #[])/\Below w.heap.size w w':=by
 rw[hn];clear hn
 go_enter func65,ntmps65
 go_wp2_with fail
 go_loop [7] (fun k=>k= .int .i64 0) (fun _=>0)
 case atStart=>rfl
 case round =>
  obtain rfl:=hrel;go_wp2_with fail
  go_end0
  exact⟨rfl,(Zk _ _).alloc (Zx _) _⟩
theorem TX (F:Ad)(B g cap:Nat)(p:Nat->Option Addr)(q:Nat->Nat)(w:World)(S:B<=w.heap.size)(r:F.n<=maxLen)(N:BH B w F g 0 p q)(c:g<w.heap.size) :
  Calls prog 65 #[Ex F.dl (.slice (some ⟨g,0,none⟩) F.n cap)] w fun e w'=>e= .returned (.tuple #[])/\Below B w w':=by
 unfold maxLen at r;have K:=Zz N;clear N
 go_enter func65,ntmps65
 go_wp2_with fail
 go_loopw [7] (fun I wx=>∃k:Nat,k<=F.n/\I= .int .i64 k/\BH B wx F g k p q/\wx.cell? ⟨w.heap.size,1,none⟩=some (.slice (some ⟨g,0,none⟩) F.n cap)/\w.heap.size<wx.heap.size/\Below B w wx) (fun I _=>F.n - (intOf I).toNat)
 case atStart=>exact⟨0,by omega,rfl,K.o.below rfl ((Zk _ _).alloc (Zx _) _),by simp,by simp,(Zk _ _).alloc S _⟩
 case round =>
  obtain⟨k,X,rfl,t,c1,f,b⟩:=hrel
  rename World=>Z
  have l:=Zz t;clear t;by_cases d:k<F.n
  ·have n6:=l.o.af k (Zx _) d
   go_wp2_with fail
   go_loopw [17] (fun J wx=>∃m:Nat,m<=F.an k/\J= .int .i64 m/\BH B wx F g k p q/\wx.cell? ⟨w.heap.size,1,none⟩=some (.slice (some ⟨g,0,none⟩) F.n cap)/\w.heap.size<wx.heap.size/\Below B w wx) (fun J _=>F.an k - (intOf J).toNat)
   case atStart=>exact⟨0,by omega,rfl,l.o,c1,f,b⟩
   case round =>
    clear n6 c1 f b;obtain⟨m,hm,rfl,a,c1,f,b⟩:=hrel
    rename World=>j
    have n6:=a.af k (Zx _) d;by_cases A:m<F.an k
    ·obtain⟨ab,C,D,E,T,G,i⟩:=(a.it k d).resolve_left (by omega)
     obtain⟨z,h,_,_,_,_,M⟩:=(K.o.it k d).resolve_left (by omega);obtain rfl:ab=z:=by rw[C] at h;simpa using h
     obtain⟨Y,x⟩:=Option.isSome_iff_exists.1 (M m A).1;have H:=World.block_lt_of_cell? _ _ x;simp only at H;obtain⟨u,hu⟩:=Option.isSome_iff_exists.1 (i m A).1;have W:=(i m A).2;rw[C] at n6;unfold maxLen at G
     have s:Hid (∀v,BH B (j.setCell ⟨ab,m,none⟩ v) F g k p q/\(j.setCell ⟨ab,m,none⟩ v).cell? ⟨w.heap.size,1,none⟩=some (.slice (some ⟨g,0,none⟩) F.n cap)/\w.heap.size<(j.setCell ⟨ab,m,none⟩ v).heap.size/\Below B w (j.setCell ⟨ab,m,none⟩ v)):=Zz fun v =>
      ⟨a.set E v,(World.cell?_of_block (w:=j) (Zl j ⟨ab,m,none⟩ v w.heap.size (by simp;omega))).trans c1,by simpa[World.setCell] using f,b.setCell D v⟩
     clear C h M x a i b;go_wp2_with fail
     go_roundw
     case rel=>exact⟨m+1,by omega,by go_num,s.o _⟩
     case measure=>simp[intOf];omega
    ·obtain rfl:m=F.an k:=by omega
     obtain⟨q0,U⟩:=a.wr k d 0 (by omega);obtain⟨q1,p1⟩:=a.wr k d 1 (by omega);obtain⟨O,p2⟩:=a.wr k d 2 (by omega);obtain⟨P,p3⟩:=a.wr k d 3 (by omega);obtain⟨Q,p4⟩:=a.wr k d 4 (by omega);obtain⟨R,p5⟩:=a.wr k d 5 (by omega);obtain⟨x0,V⟩:=Option.isSome_iff_exists.1 q0;obtain⟨x1,y1⟩:=Option.isSome_iff_exists.1 q1;obtain⟨x2,y2⟩:=Option.isSome_iff_exists.1 O;obtain⟨x3,y3⟩:=Option.isSome_iff_exists.1 P;obtain⟨x4,y4⟩:=Option.isSome_iff_exists.1 Q;obtain⟨x5,y5⟩:=Option.isSome_iff_exists.1 R;obtain⟨_,p6⟩:=a.wr k d 6 (by omega);simp only[Nat.add_zero] at V U;have L:NL B w j F g cap k p q:=⟨a,c1,f,b⟩;have y:=Zz (((((((L.node (k':=k+1) c k (k * 7) (by omega) (by omega) (by omega) (.int .i64 0)).node (k':=k+1) c k (k * 7+1) (by omega) (by omega) (by omega) (.int .i64 0)).node (k':=k+1) c k (k * 7+2) (by omega) (by omega) (by omega) (.int .i64 0)).node (k':=k+1) c k (k * 7+3) (by omega) (by omega) (by omega) (.int .i64 0)).node (k':=k+1) c k (k * 7+4) (by omega) (by omega) (by omega) (.int .i64 0)).node (k':=k+1) c k (k * 7+5) (by omega) (by omega) (by omega) (.int .i64 0)).node (k':=k+1) c k (k * 7+6) (by omega) (by omega) (by omega) (.slice none 0 0));clear a b L q0 q1 O P Q R;go_wp2_with fail
     go_roundw
     case rel=>exact⟨k+1,by omega,by go_num,y.o.at',y.o.c1,y.o.sz,y.o.bl⟩
     case measure=>simp[intOf];omega
  ·go_wp2_with fail
   go_end0
   exact⟨rfl,b⟩
structure EA (w:World)(F:Ad)(a:Option Addr)(cap:Nat)(Aa:Nat->Option Addr)(Ac:Nat->Nat):Prop where
 at':Gz w a cap F Aa Ac
 len:F.n<=maxLen
 sz:F.n * 72<=140737488355328
 nil:∀i,i<F.n->Aa i=none->Ac i=0
 sz2:∀i,i<F.n->F.an i * 8<=140737488355328
 Je:AL w
 Pq:2<w.heap.size
theorem EA.Aj {w w':World}{F:Ad}{a:Option Addr}{cap:Nat}{c:Nat->Option Addr}{d:Nat->Nat}(h:EA w F a cap c d)(b:Below w.heap.size w w'):EA w' F a cap c d :=
 ⟨h.at'.Aj b,h.len,h.sz,h.nil,h.sz2,h.Je.Aj h.Pq b,Zy h.Pq b.size⟩
theorem An.base {B B':Nat}{w:World}{F:Ad}{v:Value}{k:Nat}{a:Nat->Option Addr}{b:Nat->Nat}(h:An B w F v k a b)(c:B'<=B):An B' w F v k a b :=
 ⟨Zcr h.own c,fun i hi=>Zcr (h.ID i hi) c⟩
theorem JI (F:Ad)(a:Option Addr)(cap:Nat)(k:Nat->Option Addr)(l:Nat->Nat)(w:World)(h:EA w F a cap k l) :
  Calls prog 63 #[Ex F.dl (.slice a F.n cap)] w fun e w'=>∃(c:Option Addr) (lc:Nat) (d:Nat->Option Addr) (f:Nat->Nat),e= .returned (Ex F.dl (.slice c F.n lc))/\An w.heap.size w' F (.slice c F.n lc) F.n d f/\Below w.heap.size w w':=by
 rcases h.at' with g | ⟨b,o,rfl,r,s,p,q⟩
 ·refine (NU F a cap w g).mono ?_
  rintro e w' ⟨rfl,j⟩;exact⟨none,0,fun _=>none,fun _=>0,by rw[g],by rw[g];exact⟨World.ownsRow_nil _ _ _ _,fun i hi=>by omega⟩,j⟩
 ·refine (NV F b o cap k l w p h.sz h.nil h.sz2 q).mono ?_
  rintro e w' ⟨t,d,f,rfl,m,j⟩;obtain⟨c,lc,rfl⟩:=Zaz m.own;exact⟨c,lc,d,f,rfl,m.base (by omega),j⟩
theorem Xo (F:Ad)(B:Nat)(a:Option Addr)(lc:Nat)(c:Nat->Option Addr)(d:Nat->Nat)(w:World)(i:B<=w.heap.size)(hn:F.n<=maxLen)(h:An B w F (.slice a F.n lc) F.n c d) :
  Calls prog 65 #[Ex F.dl (.slice a F.n lc)] w fun e w'=>e= .returned (.tuple #[])/\Below B w w':=by
 by_cases f:F.n=0
 ·refine (Mk F a lc w f).mono ?_
  rintro e w' ⟨rfl,l⟩;exact⟨rfl,l.mono i⟩
 ·rcases h.own.2 with⟨_,b⟩ | ⟨g,cap,cur,b,_⟩
  ·exact absurd b f
  ·obtain⟨j,_,k⟩:a=some ⟨g,0,none⟩/\F.n=F.n/\lc=cap:=by simpa using b
   subst j k;exact TX F B g lc c d w i hn h.turn h.lt.2
theorem PY (F:Ad)(g:Int)(B:Nat)(a:Option Addr)(lc:Nat)(i:Nat->Option Addr)(j:Nat->Nat)(w:World)(hn:F.n<=maxLen)(o:AL w)(hg:2<w.heap.size)(c: -9223372036854775808<=g)(d:g<=9223372036854775807)
  (h:An B w F (.slice a F.n lc) F.n i j) :
  Calls prog 104 #[Ex F.dl (.slice a F.n lc), .int .i64 g] w fun e w'=>(∃x:Int,e= .returned (.int .i64 x)/\Gv F g x)/\Below w.heap.size w w':=by
 by_cases f:Cc F
 ·rcases h.own.2 with⟨_,b⟩ | ⟨k,cap,cur,b,_⟩
  ·exact absurd b (by have:=f.n1;omega)
  ·obtain⟨l,_,m⟩:a=some ⟨k,0,none⟩/\F.n=F.n/\lc=cap:=by simpa using b
   subst l m;exact UD F g k 0 lc i j w f h.lt.2 o hg c d h.node
 ·exact Su F g a lc w hn f
theorem Oi (F:Ad)(g:Int)(B:Nat)(d:Option Addr)(lc:Nat)(f:Nat->Option Addr)(i:Nat->Nat)(w:World)(hn:F.n<=maxLen)(j:AL w)(hg:2<w.heap.size)(b: -9223372036854775808<=g)(c:g<=9223372036854775807)
  (h:An B w F (.slice d F.n lc) F.n f i) :
  Calls prog 64 #[Ex F.dl (.slice d F.n lc), .int .i64 g] w fun e w'=>(∃x:Int,e= .returned (.int .i64 x)/\Gv F g x)/\Below w.heap.size w w':=by
 have a:Hid (∀o,Below w.heap.size w (w.alloc o)):=Zz fun o=>(Zk _ _).alloc (Zx _) _;have H:=Zz h;have p:=Zz j;clear h j
 go_enter func64,ntmps64
 go_wp2_with fail
 refine (PY F g B d lc f i _ hn (p.o.Aj hg (a.o _)) (by simp;omega) b c (H.o.below (a.o _))).mono ?_;rintro e w' ⟨⟨x,rfl,l⟩,k⟩;have q:=Zz l;have m:Below w.heap.size w w':=(a.o _).trans (k.mono (by simp));clear l k;go_wp2_with fail
 go_ret
 exact⟨⟨x,rfl,q.o⟩,m⟩
theorem QI (F:Ad)(g:Int)(a:Option Addr)(cap:Nat)(s:Nat->Option Addr)(t:Nat->Nat)(w:World)(q: -9223372036854775808<=g)(r:g<=9223372036854775807)(h:EA w F a cap s t) :
  Calls prog 23 #[Ex F.dl (.slice a F.n cap), .int .i64 g] w fun e w'=>(∃x:Int,e= .returned (.int .i64 x)/\Gv F g x)/\Below w.heap.size w w':=by
 have k:Hid (∀o,Below w.heap.size w (w.alloc o)):=Zz fun o=>(Zk _ _).alloc (Zx _) _;have H:=Zz h;clear h
 go_enter func23,ntmps23
 go_wp2_with fail
 refine (JI F a cap s t _ (H.o.Aj (k.o _))).mono ?_;rintro e d ⟨l,lc,v,y,rfl,z,p⟩;have i:Hid (Below w.heap.size w d):=Zz ((k.o _).trans (p.mono (by simp)));have A:w.heap.size+1<=d.heap.size:=by have:=p.size;simpa using this
 have u:=Zz z;clear z p;go_wp2_with fail
 have b:Below d.heap.size d (d.alloc (.cells #[.int .i64 F.dl, .slice l F.n lc] 61)):=(Zk _ _).alloc (Zx _) _;refine (Oi F g _ l lc v y _ H.o.len ((H.o.Je.Aj H.o.Pq i.o).Aj (by have:=H.o.Pq;omega) b) (by have:=H.o.Pq;simp;omega) q r (u.o.below b)).mono ?_;rintro e m ⟨⟨x,rfl,C⟩,f⟩;have E:=Zz C;have c:Hid (Below d.heap.size d m):=Zz (b.trans (f.mono (by simp)));have d0:m.cell? ⟨d.heap.size,0,none⟩=some (.int .i64 F.dl):=cell_later f (by simp);have d1:m.cell? ⟨d.heap.size,1,none⟩=some (.slice l F.n lc):=cell_later f (by simp);have B:d.heap.size<=m.heap.size:=c.o.size;clear C f b;go_wp2_with fail
 refine (Xo F _ l lc v y _ (by simp;omega) H.o.len (u.o.below c.o)).mono ?_;rintro e G ⟨rfl,j⟩;have D:Below w.heap.size w G:=(i.o.trans (c.o.mono (by omega))).trans (j.mono (by simp));clear j d0 d1;go_wp2_with fail
 go_ret
 exact⟨⟨x,rfl,E.o⟩,D⟩
open Go.RowKit Go.Extern.Stop Go.Stop Go.Extern
theorem Hh (w:World):((ReflectliteType.method fun t=>do Rtype.noPackHeld "Comparable" t;Functor.map (fun a=>Value.bool a.comparable) (typeInfo t)) #[.agg #[.pointer (some ⟨4,32,none⟩)]]).run prog w= .ok (.bool true) w:=by kernel_rfl
theorem Nl:(prog.info? 32).map (·.comparable)=some true:=by kernel_rfl
theorem Vu (q:Nat)(x y:Int)(w:World)(h:Ba w q x y) :
  Calls prog 84 #[.iface 172 (.pointer (some ⟨q,0,none⟩)), .iface 32 (.int .i64 x)] w fun e w'=>e= .returned (.bool true)/\w'=w:=by
 obtain⟨d,f⟩:=h;have g:=@run_callFunc_extern prog 136 _ ReflectliteType.typeOf func136 (by kernel_rfl) (by kernel_rfl) (by kernel_rfl) (by kernel_rfl);have a:=@run_callFunc_extern prog 353 _ (ReflectliteType.method fun t=>do Rtype.noPackHeld "Comparable" t;pure (.bool (<-typeInfo t).comparable)) func353 (by kernel_rfl) (by kernel_rfl) (by kernel_rfl) (by kernel_rfl);have m:=Hi;have c:=Hh;have i:=Zds;have l:=s_noIs;have n:=Pg;have j:=KE;have heq:=Go.Lib.run_eql_iface_int (P:=prog) w (k:= .i64) x x underlying98 Nl underlying32;have b:=run_eql_iface_types (P:=prog) 172 32 (.pointer (some ⟨q,0,none⟩)) (.int .i64 x) underlying98 (by decide) w
 go_enter func84,ntmps84
 go_wp2
 refine wp_loop_rounds 2 ?_;rw[rounds_succ]
 go_wp2
 rw[rounds_succ]
 go_wp2
 go_ret
 exact⟨rfl,rfl⟩
theorem KS (w:World) :
  Calls prog 40 #[.nilIface] w fun e w'=>e= .returned (.tuple #[.int .i64 0, .int .i64 (-1)])/\Below w.heap.size w w':=by
 go_enter func40,ntmps40
 go_wp2
 go_ret2
 exact⟨rfl,((Zk _ _).alloc (Zx _) _).alloc (by simp) _⟩
def Az (w:World):Prop:=w.cell? ⟨0,0,none⟩=some (.iface 340 (.agg #[.pointer (some ⟨4,98,none⟩)]))
theorem Az.Aj {w w':World}(h:Az w)(a:Below w.heap.size w w'):Az w' :=
 (a.cell (p:=⟨0,0,none⟩) (World.block_lt_of_cell? _ _ h)).trans h
theorem So (w:World)(B:Nat)(e:Addr)(t:Nat)(a:B<=t)(b:t<w.heap.size):Below B w (asW w e ⟨t,0,none⟩):=by
 unfold asW;refine Below.setCell (Below.alloc (Below.alloc (Below.alloc (Below.alloc (Zk _ _) ?_ _) ?_ _) ?_ _) ?_ _) ?_ _
 ·omega
 ·simp;omega
 ·simp;omega
 ·simp;omega
 ·exact a
theorem UB (w:World)(e:Addr)(t:Nat)(old:Value)(h:w.cell? ⟨t,0,none⟩=some old):(asW w e ⟨t,0,none⟩).cell? ⟨t,0,none⟩=some (.pointer (some e)):=by
 have a:t<w.heap.size:=World.block_lt_of_cell? _ _ h;unfold asW;refine World.cell?_setCell_same _ _ _ (u:=old) ?_;rw[World.cell?_alloc_lt _ _ ⟨t,0,none⟩ (by simp;omega),World.cell?_alloc_lt _ _ ⟨t,0,none⟩ (by simp;omega),World.cell?_alloc_lt _ _ ⟨t,0,none⟩ (by simp;omega),World.cell?_alloc_lt _ _ ⟨t,0,none⟩ a];exact h
theorem KR (q:Nat)(x y:Int)(w:World)(h:Ba w q x y)(k:q<w.heap.size)(hg:Az w) :
  Calls prog 40 #[.iface 172 (.pointer (some ⟨q,0,none⟩))] w fun e w'=>e= .returned (.tuple #[.int .i64 x, .int .i64 y])/\Below w.heap.size w w':=by
 have H:=Zz h;have j:=Zz hg;clear h hg;have g:Hid (∀a b,Below w.heap.size w ((w.alloc a).alloc b)):=Zz fun a b=>((Zk _ _).alloc (Zx _) _).alloc (by simp) _
 go_enter func40,ntmps40
 go_wp2_with fail
 refine (as_hit _ _ (.pointer none) _ (j.o.Aj (g.o _ _)) (by simp) (by simp)).mono ?_;rintro e i ⟨rfl,d⟩;have f:Below w.heap.size w i:=by rw[d];exact (g.o _ _).trans (So _ _ _ _ (Zx _) (by simp;omega))
 have c1:i.cell? ⟨w.heap.size,0,none⟩=some (.pointer (some ⟨q,0,none⟩)):=by rw[d];exact UB _ _ _ (.pointer none) (by simp)
 have c:=H.o.Aj k f;have f0:=c.1;have f1:=c.2;have HF:=Zz c;clear d c;go_wp2_with fail
 refine (Vu q x y _ HF.o).mono ?_;rintro e l ⟨rfl,rfl⟩;go_wp2_with fail
 go_quiet (fail)
 go_wp2_with fail
 go_ret2
 exact⟨rfl,below_drewN f _⟩
open Go.RowKit
theorem Tg (B x:Nat)(W:World):∀w',F8 B (W.alloc (.cells #[.int .i64 x] 3)) w'->Cz w' (some ⟨W.heap.size,0,none⟩) 1 1 (fun _=>(x:Int)):=by
 intro w' hf;have h:=hf.block (heap_alloc_new W (.cells #[.int .i64 x] 3)) (by decide);obtain⟨a,_⟩:=Array.getElem?_eq_some_iff.1 h;refine Zj ⟨_,_,rfl,by omega,by decide,a,fun k b=> ?_⟩;obtain rfl:k=0:=by omega
 exact Zad h 0
theorem Th (B x y:Nat)(W:World):∀w',F8 B (W.alloc (.cells #[.int .i64 x, .int .i64 y] 3)) w'->Cz w' (some ⟨W.heap.size,0,none⟩) 2 2 (fun k=>if k=0 then (x:Int) else y):=by
 intro w' hf;have h:=hf.block (heap_alloc_new W (.cells #[.int .i64 x, .int .i64 y] 3)) (by decide);obtain⟨a,_⟩:=Array.getElem?_eq_some_iff.1 h;refine Zj ⟨_,_,rfl,by omega,by decide,a,fun k b=> ?_⟩
 match k,b with
 | 0,_=>exact Zad h 0
 | 1,_=>exact Zad h 1
theorem Zcj (B:Nat)(v:Value)(l:List Int)(x:Nat)(W:World)(d:x<=1048576)(hl:l.length<=1099511627776)(c:B<=W.heap.size)(h:Al B W v l) :
  Calls prog 212 #[v, .slice (some ⟨W.heap.size,0,none⟩) 1 1] (W.alloc (.cells #[.int .i64 x] 3)) fun e w'=>∃v',e= .returned v'/\Al B w' v' (l++Bo x)/\F8 B W w':=by
 refine (FX B v l (fun _=>x) (fun _=>(x:Int)) _ 1 1 _ (fun _ _=>rfl) (fun _ _=>by omega) (by omega) hl (by simp;omega) (h.below ((Zk _ _).alloc (Zx _) _)) (Tg B x W)).mono ?_;rintro e w' ⟨v',rfl,a,b⟩;exact⟨v',rfl,by simpa[Cy] using a,((F8.refl _ _).alloc c _).trans b⟩
theorem NN (B:Nat)(v:Value)(l:List Int)(x y:Nat)(W:World)(d:x<=1048576)(f:y<=1048576)(hl:l.length<=1099511627776)(c:B<=W.heap.size)(h:Al B W v l) :
  Calls prog 212 #[v, .slice (some ⟨W.heap.size,0,none⟩) 2 2] (W.alloc (.cells #[.int .i64 x, .int .i64 y] 3)) fun e w'=>∃v',e= .returned v'/\Al B w' v' ((l++Bo x)++Bo y)/\F8 B W w':=by
 refine (FX B v l (fun k=>if k=0 then x else y) (fun k=>if k=0 then (x:Int) else y) _ 2 2 _ (fun k _=>by split<;>rfl) (fun k _=>by show (if k=0 then x else y)<=_;split<;>omega) (by omega) hl (by simp;omega) (h.below ((Zk _ _).alloc (Zx _) _)) (Th B x y W)).mono ?_;rintro e w' ⟨v',rfl,a,b⟩;exact⟨v',rfl,by simpa[Cy] using a,((F8.refl _ _).alloc c _).trans b⟩
def KL (g:Nat):Value:= .agg #[.pointer (some ⟨g,0,none⟩), .pointer (some ⟨g,1,none⟩), .pointer (some ⟨g,2,none⟩), .pointer (some ⟨g,3,none⟩), .pointer (some ⟨g,4,none⟩), .pointer (some ⟨g,5,none⟩)]
theorem six0 (g:Nat)(w:World):(Instr.index 359 (KL g) (.int .i64 0)).run prog w= .ok (.pointer (some ⟨g,0,none⟩)) w:=by kernel_rfl
theorem six1 (g:Nat)(w:World):(Instr.index 359 (KL g) (.int .i64 1)).run prog w= .ok (.pointer (some ⟨g,1,none⟩)) w:=by kernel_rfl
theorem six2 (g:Nat)(w:World):(Instr.index 359 (KL g) (.int .i64 2)).run prog w= .ok (.pointer (some ⟨g,2,none⟩)) w:=by kernel_rfl
theorem six3 (g:Nat)(w:World):(Instr.index 359 (KL g) (.int .i64 3)).run prog w= .ok (.pointer (some ⟨g,3,none⟩)) w:=by kernel_rfl
theorem six4 (g:Nat)(w:World):(Instr.index 359 (KL g) (.int .i64 4)).run prog w= .ok (.pointer (some ⟨g,4,none⟩)) w:=by kernel_rfl
theorem six5 (g:Nat)(w:World):(Instr.index 359 (KL g) (.int .i64 5)).run prog w= .ok (.pointer (some ⟨g,5,none⟩)) w:=by kernel_rfl
theorem FO (g:Nat)(w:World) :
  Calls prog 213 #[.pointer (some ⟨g,0,none⟩)] w fun e w'=>e= .returned (KL g)/\Below w.heap.size w w':=by
 go_enter func213,ntmps213
 go_wp2_with fail
 go_region
 all_goals (go_wp2_with fail)
 exact bodyPost_ret (v:=KL g) (by simp[results,Tryz.results213,go_sem,KL]) rfl ⟨rfl,((Zk _ _).alloc (Zx _) _).drew⟩
theorem Lv (F:Ad)(B:Nat)(a:Option Addr)(lc:Nat)(d:Nat->Option Addr)(f:Nat->Nat)(w:World)(hn:F.n<=maxLen)(k:AL w)(hg:2<w.heap.size)
  (h:An B w F (.slice a F.n lc) F.n d f) :
  Calls prog 146 #[Ex F.dl (.slice a F.n lc)] w fun e w'=>Hp F w w' e/\Below w.heap.size w w':=by
 by_cases c:Cc F
 ·rcases h.own.2 with⟨_,b⟩ | ⟨g,cap,cur,b,_⟩
  ·exact absurd b (by have:=c.n1;omega)
  ·obtain⟨i,_,j⟩:a=some ⟨g,0,none⟩/\F.n=F.n/\lc=cap:=by simpa using b
   subst i j;exact NT F g 0 lc d f w c h.lt.2 k hg h.node
 ·exact Lw F a lc w hn c
end Go.Proofs.YtgdcjccbdmcebaaGreatDoor
namespace Go.Proofs.YtgdcjccbdmcebaaGreatDoor.Laid
open Go.RowKit Go.ChangeShapes Go.WideShapes Go.Proofs.YtgdcjccbdmcebaaGreatDoor
theorem gTab:prog.globalNamed "math/bits.deBruijn64tab"=some 2:=by kernel_rfl
theorem Vj:(prog.globals[2]?).map (·.type)=some 427:=by kernel_rfl
theorem Yg:prog.cellsOf 427=64:=by kernel_rfl
theorem cells5:prog.cellsOf 5=1:=by kernel_rfl
def zs64:List Int:=Lib.deBruijn64tab.map Int.ofNat
theorem zs64_at:∀j,j<64->zs64.getD j 0=((Lib.deBruijn64tab.getD j 0:Nat):Int):=by decide
theorem tab_of {W:World}(a:laidMetH prog [("math/bits.deBruijn64tab",Lib.tabData .u8 zs64)] W):AL W:=by
 have b:Lib.TabIs prog W "math/bits.deBruijn64tab" .u8 zs64:=Lib.tabIs_of_head (rest:=[]) gTab Vj underlying427 underlying5 cells5 Yg a;intro j c;rw[<-zs64_at j c]
 exact b.cell gTab j (by have:zs64.length=64:=by decide
                         omega)
theorem et:prog.globalNamed "errors.errorType"=some 0:=by kernel_rfl
theorem rt:(prog.cutTypes.find? (·.1 == "internal/reflectlite.rtype")).map (·.2)=some 340:=by kernel_rfl
theorem oneRow:((List.range 496).filter fun t=>prog.rowNamed t [101,114,114,111,114])=[98]:=by kernel_rfl
theorem size:prog.types.size=496:=by kernel_rfl
theorem err_of {W:World}(h:laidMetH prog [("errors.errorType",Rows.laid_errors_errorType)] W):Az W:=by
 have f:laidMet prog [] W/\handlesMet prog [("errors.errorType",Rows.laid_errors_errorType)] W:=h;obtain⟨name,u,ty,b,c,d,e,a⟩:=f.2 _ (List.mem_singleton.2 rfl);have en:name=[101,114,114,111,114]:=(Option.some.inj b).symm;subst en;obtain rfl:=Option.some.inj (rt.symm.trans c);have hm:ty∈(List.range 496).filter fun t=>prog.rowNamed t [101,114,114,111,114]:=List.mem_filter.2 ⟨List.mem_range.2 (by rw[<-size];exact d),e⟩
 rw[oneRow] at hm;obtain rfl:=List.mem_singleton.1 hm;have hh:typeHandle prog 98= .pointer (some ⟨4,98,none⟩):=by kernel_rfl
 rw[hh] at a;have:=World.var?_cell et a 0;exact this
def lay32:Obj->Obj
 | .cells _ t frozen=> .cells (Lib.deBruijn32tab.map fun n=>Value.int .u8 (Int.ofNat n)).toArray t frozen
 | o=>o
def lay64:Obj->Obj
 | .cells _ t frozen=> .cells (Lib.deBruijn64tab.map fun n=>Value.int .u8 (Int.ofNat n)).toArray t frozen
 | o=>o
def layErr:Obj->Obj
 | .cells _ t frozen=> .cells #[.iface 340 (.agg #[.pointer (some ⟨4,98,none⟩)])] t frozen
 | o=>o
end Go.Proofs.YtgdcjccbdmcebaaGreatDoor.Laid
