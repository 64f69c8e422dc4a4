import Derived.Test.YtgdcjccbdmcebaaGreatDoorM50
import Derived.Test.YtgdcjccbdmcebaaGreatDoorM52
import Derived.RangeFuncFrom
import Derived.RangeFuncNested
import Derived.RangeFuncBound
import Derived.RangeFuncCalls
import Derived.RangeFuncLeaves
import Derived.Shelf.Abstract
import Derived.Shelf.RegionOpen
import Derived.OwnWalkIn
import Derived.TacticsInMore
import Derived.LoopNIn
import Derived.LoopIn
set_option linter.unusedSimpArgs false
set_option linter.unusedVariables false
set_option maxHeartbeats 8000000
set_option maxRecDepth 100000
open Go.Proofs.Tryz
namespace Go.Proofs.YtgdcjccbdmcebaaGreatDoor
open Go.RowKit
def RS.pos:RS->Nat
 | .AA p _=>p
 | .bad _=>0
theorem YY {n:Nat}{f:Nat->Nat}{p v q:Nat}(h:Zcg n f p=some (v,q)):q<=p+3:=by
 rcases Kq n f p with⟨_,a⟩ | ⟨_,_,a⟩ | ⟨_,_,_,a⟩ | ⟨_,_,_,a⟩ | ⟨_,_,_,_,a⟩ | ⟨_,_,_,_,a⟩ | ⟨_,_,_,_,a⟩ | ⟨_,_,_,_,_,a⟩ | ⟨_,_,_,_,a⟩<;>rw[a] at h<;>cases h<;>omega
theorem YZ (n:Nat)(f:Nat->Nat)(r:RS):(LU n f r).pos<=r.pos+3:=by
 cases r with
 | bad s=>exact Nat.zero_le _
 | AA p s =>
  cases h:Zcg n f p with
  | none=>rw[Zcs h];exact Nat.zero_le _
  | some x=>obtain⟨v,q⟩:=x;rw[Zcb h];exact YY h
theorem MW (n:Nat)(f:Nat->Nat)(r:RS):∀k,(Bg n f k r).pos<=r.pos+3 * k
 | 0=>Zx _
 | k+1=>by
  have a:=MW n f r k;have b:=YZ n f (Bg n f k r);show (LU n f (Bg n f k r)).pos<=_;omega
theorem WZ (n:Nat)(f:Nat->Nat):∀i,(∀j,j<i->(Zah n f).an j<=12)->(st n f i).pos<=6+57 * i
 | 0,_=>by
  have:=MW n f (.AA 0 0) 2;show (Bg n f 2 (.AA 0 0)).pos<=_;have e:RS.pos (.AA 0 0)=0:=rfl;omega
 | i+1,h=>by
  have b:=WZ n f i (fun j d=>h j (by omega));have a:=h i (by omega)
  replace a:BI n f (Bg n f 6 (st n f i))<=12:=a
  have c:=MW n f (st n f i) (7+BI n f (Bg n f 6 (st n f i)));show (VX n f (st n f i)).pos<=_;unfold VX;omega
theorem Yo {n:Nat}{f:Nat->Nat}{y:Int}{G:Ad}(h:Cn n f 0 y G):n<=700:=by
 rcases h with⟨_,_,h,_⟩ | ⟨_,_,_,_,h,_⟩ | ⟨p,s,b,k,c,_⟩
 ·exact absurd h (by decide)
 ·exact absurd h (by decide)
 ·rcases c with⟨h,_⟩ | ⟨h,_⟩ | ⟨h,_⟩ | ⟨h,_⟩ | ⟨_,_,d,e,_⟩
  ·exact absurd h (by decide)
  ·exact absurd h (by decide)
  ·exact absurd h (by decide)
  ·exact absurd h (by decide)
  ·have l:=d.n2
   have a:=WZ n f (Zah n f).n (fun j i=>by have:=(e j i).2.Uv;omega);have g:NH n f=st n f (Zah n f).n:=rfl;rw[<-g,b] at a
   replace a:p<=6+57 * (Zah n f).n:=a
   omega
theorem Eo {op:Int}{n:Nat}(a:0<=op/\op<256)(hn:n<18446744073709551616):GA (AX op [] n):=by
 have:=Zdu (op:=op) (data:=[]) hn;exact⟨Ip a EG,this.1,by have:=this.2;simp only[List.length_nil] at this;omega⟩
theorem ZA {l:List Int}(b:BB l)(c:l.length<=700):GA (AX 1 l 0):=by
 have a:=Zdu (op:=1) (data:=l) (n:=0) (by decide);exact⟨Ip (by decide) b,a.1,by omega⟩
theorem Ew.rok {e e':Ab}{l:List Int}(h:Ew e l e'):GA l:=by
 cases h with
 | AN b a _=>exact ZA a (Yo b)
 | Bk _=>exact Eo (by decide) (by decide)
 | BZ hn _=>exact Eo (by decide) hn
 | complete hn _=>exact Eo (by decide) hn
 | fail hn _=>exact Eo (by decide) hn
 | cancel hn _=>exact Eo (by decide) hn
 | tick hn _=>exact Eo (by decide) hn
 | At hn=>exact Eo (by decide) hn
theorem Dc.rok {e e':Ab}{a:List (List Int)}(h:Dc e a e'):∀l∈a,GA l:=by
 induction h with
 | nil _=>intro l hl;cases hl
 | cons b _ c =>
  intro l hl;rcases List.mem_cons.1 hl with rfl | hl
  ·exact b.rok
  ·exact c l hl
open Go.RowKit
attribute [local go_sem ↓] Go.wp_at_zero Go.wp_at_succ
theorem TI (c:Int)(w:World)(d: -9223372036854775808<=c)(a:c<=9223372036854775807) :
  Calls prog 105 #[.int .i64 c, .int .i64 1] w fun e w'=>e= .returned (.int .i64 0)/\w'=w:=by
 by_cases b:c<0
 ·go_enter func105,ntmps105
  go_wp2
  go_ret
  exact⟨rfl,rfl⟩
 ·go_enter func105,ntmps105
  go_wp2
  go_ret
  exact⟨rfl,rfl⟩
def Jj (f:BG):Ay:=⟨f,f,[],-1,-1,false⟩
theorem Sv (w:World)(R D bd bn:Nat)(kept part:Int)(d:Ay)(h:Av w R D bd bn d)(hp:d.Ap=[])(I: -9223372036854775808<=part/\part<=9223372036854775807) :
  Calls prog 66 #[.pointer (some ⟨D,0,none⟩), .int .i64 kept, .int .i64 part] w fun x w'=>x= .returned (.tuple #[])/\∃b,w.heap.size<=b/\b<w'.heap.size/\Av w' w.heap.size D bd b (Jj d.CJ)/\w'.cell? ⟨D,2,none⟩=some (.slice none 0 0)/\Ax w w' D:=by
 have P:=@run_makeMap prog;obtain⟨K,L,dk,J⟩:=h.c;obtain⟨A,g⟩:=h.fd;rw[hp] at dk
 replace dk:CF w D bd bn (.slice K 0 L) d.left d.full d.down:=dk
 have F:=Zz (fun wx=>TI part wx I.1 I.2);have m:=g.lt;have j:=Zaa dk.Au
 have l:bd≠D:=fun e=>by
  obtain⟨es,c,E,_⟩:=g.own;rw[e,dk.Au] at E;cases E
 obtain⟨T,u⟩:∃x,x=d.left:=⟨_,rfl⟩;obtain⟨f0,r⟩:∃x,x=d.full:=⟨_,rfl⟩;obtain⟨C,q⟩:∃x,x=d.down:=⟨_,rfl⟩;rw[<-u,<-r,<-q] at dk;have M:=Zz (show CF w D bd bn (.slice K 0 L) T f0 C/\AB w bd d.CJ A/\bd≠D/\D<w.heap.size/\bd<w.heap.size from⟨dk,g,l,j,m⟩);obtain⟨z,v⟩:∃z,z=w.alloc (.map #[] 0):=⟨_,rfl⟩;have a:Below w.heap.size w z:=by rw[v];exact (Zk _ _).alloc (Zx _) _
 have c2:=dk.cells.1.1.1.2;have f:=dk.at_ (a.block D j);have X:=f.cells.1.1.1.2;have E:=f.cells.1.1.2;have Y:=f.cells.1.2;have g3:=f.AE 3;have g4:=f.AE 4
 have B:=Zz (show ∀wx,CF wx D bd bn (.slice K 0 L) (-1) (-1) C->Ax z wx D->Calls prog 33 #[.pointer (some ⟨D,0,none⟩)] wx fun x w'=>x= .returned (.tuple #[])/\∃b,w.heap.size<=b/\b<w'.heap.size/\Av w' w.heap.size D bd b (Jj d.CJ)/\w'.cell? ⟨D,2,none⟩=some (.slice none 0 0)/\Ax w w' D from fun wx Q n=>by
  have H:∀k s,Zde z k s->k≠D:=fun k s e y=>by
   unfold Zde at e;rw[y,f.Au] at e;simp only[Option.some.injEq,Obj.cells.injEq] at e;exact absurd e.2.1 (by decide)
  have hf:=(g.below a).Et (n.block bd (Zy m a.size) l) (fun k s e=>n.block k (Zaa e) (H k s e));refine (Xr wx D bd _ _ _ _ C d.CJ A Q.Au hf).mono ?_;rintro x w' ⟨rfl,b,q1,U,N,V,W,p⟩;have i:=Zv a.size n.size;refine⟨rfl,b,Zv i q1,U,⟨Zv i p.size,⟨none,0,N,World.ownsRow_nil _ _ _ _⟩,⟨A,V⟩,⟨A,W⟩,by omega,Nat.zero_le _,fun o h=>by cases h⟩,N.cells.1.1.1.2,?_⟩;exact⟨p.os.trans (n.os.trans a.os),p.tape.trans (n.tape.trans a.tape),p.output.trans (n.output.trans a.output),Zv i p.size,fun k G t=>(p.block k (Zy G i) t).trans ((n.block k (Zy G a.size) t).trans (a.block k G))⟩)
 have M:=Zz f;clear h hp I J g dk f l j m u r q a;subst v
 go_enter func66,ntmps66
 go_wp2_with (go_at_call 105;refine (F.o _).mono ?_;rintro _ w ⟨rfl,rfl⟩)
 go_loopw [24] (fun S wr=>S= .int .i64 0/\wr=w.alloc (.map #[] 0)) (fun _ _=>0)
 case atStart=>exact⟨rfl,rfl⟩
 case round =>
  obtain⟨rfl,rfl⟩:=hrel;go_wp2_with (go_at_call 33;refine (B.o _ ((M.o.WT (-1)).KI (-1)) (((Ax.refl _ D).set 3 _).set 4 _)).mono ?_;rintro _ Z ⟨rfl,q1⟩;have O:=Zz q1;clear q1)
  go_end0
  exact⟨rfl,O.o⟩
structure Rj (w:World)(hb R D bd bn N:Nat)(recs:List (List Int))(e:Ab):Prop where
 host:Bm w hb D (.pointer none)
 dk:Av w R D bd bn (Jj (DH recs))
 nil:w.cell? ⟨D,2,none⟩=some (.slice none 0 0)
 log:Dc Za1 recs e
 sz:Hr (DH recs) N
 m2:2000000<=N
 err:Az w
 nm:Za4 w
 Je:AL w
 gl:4<hb/\4<D/\4<bd/\4<bn/\4<R
 ne:hb≠D/\hb≠bd/\hb≠bn
theorem Tb (w:World)(j P B R D bd bn N:Nat)(ob:Option Nat)(e:Ab)(kept part:Int)(h:Bd w j P B R D bd bn ob N e)(T: -9223372036854775808<=part/\part<=9223372036854775807) :
  Calls prog 25 #[.pointer (some ⟨j,0,none⟩), .int .i64 kept, .int .i64 part] w fun x w'=>x= .returned (.tuple #[])/\∃m b,w.heap.size<=m/\Rj w' j w.heap.size D bd m N b e/\HF w w' j D bd bn:=by
 obtain⟨g,d,n,ws⟩:=h.ex;obtain⟨b,hl,t,_⟩:=ws.log;have K:=Zaa h.host.Au;have p:=h.ne;have I:=n.ne.l.gl;have H:=n.ne;have L:=n.pl;obtain⟨pa,pc,dk,_⟩:=n.dk.c;obtain⟨Dd,f3⟩:=n.dk.fd;obtain⟨Dn,f4⟩:=n.dk.fn
 have hm:∀F f Q,AB w F f Q->F≠j:=fun F f Q hx X=>by
  obtain⟨es,c,S,_⟩:=hx.own;rw[X,h.host.Au] at S;cases S
 have Z:∀k s,Zde w k s->k≠j:=fun k s e y=>by
  unfold Zde at e;rw[y,h.host.Au] at e;simp only[Option.some.injEq,Obj.cells.injEq] at e;exact absurd e.2.1 (by decide)
 obtain⟨r,q⟩:∃r,r=w.setCell ⟨j,1,none⟩ (.pointer none):=⟨_,rfl⟩;have v:Ax w r j:=by rw[q];exact (Ax.refl w j).set 1 _
 have u:Bm r j D (.pointer none):=by rw[q];exact h.host.set _
 have A:Av r R D bd bn d:=v.fit h.host.Au (by decide) n.dk;have c0:=h.host.cells.1;have c1:=h.host.cells.2;have f1:=h.host.AE 1;have W:=u.cells.1
 have E:=Zz (show Calls prog 66 #[.pointer (some ⟨D,0,none⟩), .int .i64 kept, .int .i64 part] r fun x w'=>x= .returned (.tuple #[])/\∃m b,w.heap.size<=m/\Rj w' j w.heap.size D bd m N b e/\HF w w' j D bd bn from by
  refine (Sv r R D bd bn kept part d A ws.Ap T).mono ?_;rintro x w' ⟨rfl,m,q1,q2,U,q4,z⟩;have M:=v.size;have Aj:∀k,k<w.heap.size->k≠j->k≠D->w'.heap[k]? =w.heap[k]? :=fun k C k1 k2=>(z.block k (Zy C M) k2).trans (v.block k C k1);have O:r.heap.size=w.heap.size:=by rw[q];simp
  rw[O,t] at U;have J:=World.block_lt_of_cell? _ _ (n.nm 0 (by omega));have G:=World.block_lt_of_cell? _ _ h.err;have Y:=p.gl;refine⟨rfl,m,b,by omega,⟨u.at_ (z.block j (by omega) p.d),U,q4,hl,?_,ws.m2,(World.cell?_of_block (a:=⟨0,0,none⟩) (Aj _ G (by show 0≠j;omega) (by show 0≠D;omega))).trans h.err,fun i hi=> ?_,?_,by omega,p.d,p.md,by omega⟩,⟨z.os.trans v.os,z.tape.trans v.tape,z.output.trans v.output,by have:=z.size;omega,fun k C k0 k1 _ _=>Aj k C k0 k1⟩⟩
  ·rw[<-t];exact ws.s1
  ·exact (World.cell?_of_block (a:=⟨1,i,none⟩) (Aj _ J (by show 1≠j;omega) (by show 1≠D;omega))).trans (n.nm i hi)
  ·exact n.Je.at_ (Aj _ (by omega) (by omega) (by omega)))
 have HW:=Zz q;clear h T n ws hl t K p I H L dk f3 f4 hm Z v u A;subst q
 go_enter func25,ntmps25
 go_wp2_with (go_at_call 66;refine E.o.mono ?_;rintro _ w5 ⟨rfl,q1⟩;have V:=Zz q1;clear q1)
 go_end0
 exact⟨rfl,V.o⟩
structure OpnS (w w':World)(fb hb P B D bd bn:Nat)(ob:Option Nat)(d:Ay)(e:Ab):Prop where
 pw:w.heap.size<=P
 pb:P<B
 bs:B<=w'.heap.size
 log:Bp w' P D ⟨0,0,0⟩
 kp:BY w' P B ob e
 dk:∃R,Av w' R D bd bn d
 nil:w'.cell? ⟨D,2,none⟩=some (.slice none 0 0)
 host:Bm w' hb D (.pointer none)
 UZ:w'.heap[fb]? =some (.cells #[.int .i64 (-1), .int .i64 (-1), .int .i64 0, .int .i64 0] 35 (0,0))
 hf:HF w w' hb D bd bn
theorem Ib (f:BG):(Jj f).synced=⟨f,f,[],-2,-2,false⟩:=by
 simp[Ay.synced,Jj,Ay.Bx,Ay.wrote,wI]
theorem Xw {N:Nat}{a:List (List Int)}{e:Ab}(b:Hr (DH a) N)(c:2000000<=N)(hl:Dc Za1 a e):BD ⟨0,0,0⟩ (Ay.calm (Jj (DH a)).synced) N e:=by
 rw[Ib];exact⟨rfl,rfl,rfl,rfl,rfl,rfl,rfl,b,b,c,a,hl,rfl,rfl⟩
theorem LA {a:List (List Int)}(h:a≠[]):DH a 0=some (a.flatMap Zas):=by unfold DH;rw[if_pos rfl,if_neg h]
theorem Qi (w:World)(f R0 D bd bn N:Nat)(d:List (List Int))(e:Ab)(h:Rj w f R0 D bd bn N d e)(hrec:d≠[])(AQ:AD e)(hN:N<=1000000000000) :
  Calls prog 12 #[.pointer (some ⟨f,0,none⟩),Zbl (-1) (-1) 0 0] w fun x w'=>x= .returned (.int .i64 0)/\∃P B R ob,Bd w' f P B R D bd bn ob N e/\w.heap.size<=P/\w.heap.size<=R/\HF w w' f D bd bn:=by
 have u:=h.dk;have he:=h.err;have br:=h.nm;have ht:=h.Je;have ar:=h.gl;have aw:=h.ne;obtain⟨fb,al⟩:∃fb,fb=w.heap.size:=⟨_,rfl⟩;obtain⟨A,W⟩:∃A,A=w.alloc (.cells #[.int .i64 (-1), .int .i64 (-1), .int .i64 0, .int .i64 0] 35):=⟨_,rfl⟩;have n:Below w.heap.size w A:=by rw[W];exact (Zk _ _).alloc (Zx _) _
 have E:A.heap[fb]? =some (.cells #[.int .i64 (-1), .int .i64 (-1), .int .i64 0, .int .i64 0] 35 (0,0)):=by rw[W,al];exact heap_alloc_new w _
 have au:=Zaa h.host.Au
 have dk:CF w D bd bn (.slice none 0 0) (-1) (-1) false:=by
  obtain⟨pa,pc,q,_⟩:=u.c;have e:=q.cells.1.1.1.2;rw[h.nil] at e;have e2:=Option.some.inj e;rw[<-e2] at q;exact q
 have ae:=Zaa dk.Au;obtain⟨Dd,S⟩:=u.fd;obtain⟨Dn,T⟩:=u.fn;have bf:=S.lt;have bp:=T.lt;have b9:0<w.heap.size:=World.block_lt_of_cell? _ _ he;have U:=h.host.at_ (n.block f au);have ag:=dk.at_ (n.block D ae)
 have ax:∀k s,Zde A k s->k≠D:=fun k s e y=>by
  unfold Zde at e;rw[y,ag.Au] at e;simp only[Option.some.injEq,Obj.cells.injEq] at e;exact absurd e.2.1 (by decide)
 have av:bd≠D/\bn≠D:=⟨fun e=>(by
  obtain⟨es,c,L,_⟩:=S.own;rw[e,dk.Au] at L;cases L),fun e=>(by
  obtain⟨es,c,L,_⟩:=T.own;rw[e,dk.Au] at L;cases L)⟩
 have Y:=Zz (show Calls prog 34 #[.pointer (some ⟨f,0,none⟩),Zbl (-1) (-1) 0 0] A fun x w'=>x= .returned (.tuple #[])/\Bm w' f D (.pointer none)/\Av w' A.heap.size D bd bn (Jj (DH d))/\Ax A w' D from by
  refine (FY A f D bd bn _ _ _ _ false (-1) (-1) 0 0 U ag).mono ?_;rintro x w' ⟨rfl,q1,m⟩;refine⟨rfl,U.at_ (m.block f (by have:=n.size;omega) aw.1),⟨m.size,⟨none,0,q1,World.ownsRow_nil _ _ _ _⟩,⟨Dd,(S.below n).Et (m.block bd (by have:=n.size;omega) av.1) (fun k s e=>m.block k (Zaa e) (ax k s e))⟩,⟨Dn,(T.below n).Et (m.block bn (by have:=n.size;omega) av.2) (fun k s e=>m.block k (Zaa e) (ax k s e))⟩,u.ne,Nat.zero_le _,fun o p=>by cases p⟩,m⟩)
 have HR:=Zz (Zq W (Zq al (Zq n E)));have HL:=Zz (Zq au (Zq ae (Zq bf (Zq bp b9))));have HX:=Zz (Zq hrec (Zq h.log (Zq AQ (Zq h.sz (Zq hN (Zq h.m2 (Zq u ar)))))));have z:=Zz (Zq he (Zq br (Zq ht (Zq ar aw))));have c0:A.cell? ⟨f,0,none⟩=some (.pointer (some ⟨D,0,none⟩)):=U.cells.1;have z0:A.cell? ⟨fb,0,none⟩=some (.int .i64 (-1)):=by unfold World.cell?;rw[E];rfl
 have z1:A.cell? ⟨fb,1,none⟩=some (.int .i64 (-1)):=by unfold World.cell?;rw[E];rfl
 have z2:A.cell? ⟨fb,2,none⟩=some (.int .i64 0):=by unfold World.cell?;rw[E];rfl
 have z3:A.cell? ⟨fb,3,none⟩=some (.int .i64 0):=by unfold World.cell?;rw[E];rfl
 unfold Zbl at Y ⊢;clear h u dk he br ht ar aw al W n E au ae S T bf bp b9 U ag ax av
 go_enter func12,ntmps12
 go_upto_region 1 with fail
 rw[<-HR.o.2.1,<-HR.o.1]
 go_upto_region 2 with (go_at_call 34;refine Y.o.mono ?_;rintro _ w2 ⟨rfl,q1,m,Z⟩;have H2:=Zz (Zq q1 (Zq m Z));clear q1 m Z)
 have ay:=Zz (show Calls prog 35 #[Bw D] w2 fun x w'=>∃P B ob,x= .returned (.tuple #[.pointer (some ⟨P,0,none⟩), .nilIface])/\OpnS w w' fb f P B D bd bn ob (Jj (DH d)).synced e from by
  obtain⟨g1,g2,g3,g4,g5⟩:=z.o.2.2.2.1;obtain⟨l1,l2,l3,l4,l5⟩:=HL.o;obtain⟨r1,r2,M,r4⟩:=HR.o;obtain⟨a1,a2,a3⟩:=H2.o;have hs:=M.size
  have bw:Za4 w2:=fun i hi=>by
   have hz:=cell_later M (z.o.2.1 i hi);exact (World.cell?_of_block (a:=⟨1,i,none⟩) (a3.block 1 (World.block_lt_of_cell? _ _ hz) (by omega))).trans hz
  obtain⟨e1,L,e4,e5,e6,e7,_⟩:=HX.o;refine (PV w2 A.heap.size D bd bn N (Jj (DH d)) d e a2 (by simp[Ay.Bx,Jj]) (by rw[Ib]) (by rw[Ib];exact LA e1) (fun i h1 _=>by rw[Ib];show DH d i=none;unfold DH;rw[if_neg (by omega)]) L L.rok e4 (Zv (e5 0 _ (LA e1)) e6) (z.o.2.2.1.at_ ((a3.block _ (by omega) (by omega)).trans (M.block _ (by omega)))) (by have:=a3.size;omega) e5 (fun o h=>by cases h) (by omega) bw ⟨g2,g3,g4,by omega⟩).mono ?_;rintro x w' ⟨P,B,ob,rfl,b1,b2,b8,b3,b4,b5,b6,b7⟩;have e2:=a3.size;have G:w2.heap[fb]? =some (.cells #[.int .i64 (-1), .int .i64 (-1), .int .i64 0, .int .i64 0] 35 (0,0)):=(a3.block fb (Zaa r4) (by omega)).trans r4
  have stay:∀k,k<w.heap.size->k≠D->k≠bd->k≠bn->w'.heap[k]? =w.heap[k]? :=fun k u k1 k2 k3=>by
   rw[b6.block k (by omega) k1 k2 k3 (Zu (by omega)),a3.block k (by omega) k1,M.block k u]
  refine⟨P,B,ob,rfl,by omega,b2,b8,b3,b4,⟨_,b5⟩,b7,a1.at_ (b6.block f (by omega) z.o.2.2.2.2.1 z.o.2.2.2.2.2.1 z.o.2.2.2.2.2.2 (Zu (by omega))),(b6.block fb (Zaa G) (by omega) (by omega) (by omega) (Zj fun cy da e'=>by rw[G] at e';simp only[Option.some.injEq,Obj.cells.injEq] at e';exact absurd e'.2.1 (by decide))).trans G,⟨b6.os.trans (a3.os.trans M.os),b6.tape.trans (a3.tape.trans M.tape),b6.output.trans (a3.output.trans M.output),by have:=b6.size;omega,fun k u _ k1 k2 k3=>stay k u k1 k2 k3⟩⟩)
 obtain⟨a0,_⟩:=H2.o.1.cells;have a1:w2.cell? ⟨f,0,none⟩=some (.pointer (some ⟨D,0,none⟩)):=a0;unfold Bw at ay;clear a0 z0 z1 z2 z3 c0
 go_upto_region 3 with (go_at_call 35;refine ay.o.mono ?_;rintro _ w3 ⟨P,B,ob,rfl,b⟩;have HP:=Zz b;clear b)
 have H:=HP.o.host;have b1:=H.cells.2;have f1:w3.frozen? ⟨f,1,none⟩=false:=H.AE 1;clear a1
 go_upto_region 4 with fail
 obtain⟨w4,K⟩:∃w4,w4=w3.setCell ⟨f,1,none⟩ (.pointer (some ⟨P,0,none⟩)):=⟨_,rfl⟩;rw[<-K];have p:Ax w3 w4 f:=by rw[K];exact (Ax.refl w3 f).set 1 _
 have I:Bm w4 f D (.pointer (some ⟨P,0,none⟩)):=by rw[K];exact H.set _
 have ck:=Zz (Zq K (Zq p I));obtain⟨g1,g2,g3,g4,g5⟩:=z.o.2.2.2.1;obtain⟨n1,n2,n3⟩:=z.o.2.2.2.2;obtain⟨l1,l2,l3,l4,l5⟩:=HL.o;obtain⟨r1,r2,M,r4⟩:=HR.o;have ct:=M.size;have b:=HP.o;have Q:=b.pw;have V:=b.hf.size;have J:=p.size;have F:=b.pb;have O:=b.bs;have C:=Zy F O;have j:∀o v,w3.cell? ⟨P,o,none⟩=some v->w4.cell? ⟨P,o,none⟩=some v:=fun o v e=>(World.cell?_of_block (a:=⟨P,o,none⟩) (p.block P C (by omega))).trans e
 have bh:∀o,w4.frozen? ⟨P,o,none⟩=false:=fun o=>(World.frozen?_of_block (a:=⟨P,o,none⟩) (p.block P C (by omega))).trans (b.log.fz o)
 have hold:∀k,k<w.heap.size->k≠f->k≠D->k≠bd->k≠bn->w4.heap[k]? =w.heap[k]? :=fun k u k0 k1 k2 k3=>(p.block k (by omega) k0).trans (b.hf.block k u k0 k1 k2 k3)
 have bj:1<w.heap.size:=World.block_lt_of_cell? _ _ (z.o.2.1 0 (by omega));have bo:2<w.heap.size:=World.block_lt_of_cell? _ _ (z.o.2.2.1 0 (by omega))
 have az:AK w4 P B w3.heap.size D bd bn ob ⟨0,0,0⟩ (Jj (DH d)).synced e:=by
  obtain⟨rs,l,cr,cu⟩:=b.kp;refine⟨⟨rs,l,cr.side ⟨J,fun o _=>World.cell?_of_block (a:=⟨P,o,none⟩) (p.block P C (by omega)),fun o=>World.frozen?_of_block (a:=⟨P,o,none⟩) (p.block P C (by omega)),fun k cs t fr u e' _=>p.block k (Zaa e') (by omega),fun k es c u e'=>p.block k (Zaa e') (by omega)⟩,cu⟩,⟨j _ _ b.log.c0,j _ _ b.log.c1,j _ _ b.log.c2,j _ _ b.log.c3,bh⟩,?_,fun i hi=> ?_,?_,⟨⟨by omega,by omega,by omega,C,by omega,by omega,by omega,by omega⟩,F,by omega,by omega,by omega⟩⟩
  ·obtain⟨R0,cm⟩:=b.dk
   refine Av.raise (R:=R0) (p.fit H.Au (by decide) cm) (by rw[Ib]) ?_ J;exact (World.cell?_of_block (a:=⟨D,2,none⟩) (p.block D (by omega) (by omega))).trans b.nil
  ·exact (World.cell?_of_block (a:=⟨1,i,none⟩) (hold 1 bj (by omega) (by omega) (by omega) (by omega))).trans (z.o.2.1 i hi)
  ·exact z.o.2.2.1.at_ (hold 2 bo (by omega) (by omega) (by omega) (by omega))
 have r:w4.heap[fb]? =some (.cells #[.int .i64 (-1), .int .i64 (-1), .int .i64 0, .int .i64 0] 35 (0,0)):=(p.block fb (Zaa b.UZ) (by omega)).trans b.UZ;have aj:Az w4:=(World.cell?_of_block (a:=⟨0,0,none⟩) (hold 0 l5 (by omega) (by omega) (by omega) (by omega))).trans z.o.1
 have X:=Zz (show Calls prog 36 #[.pointer (some ⟨f,0,none⟩),Zbl (-1) (-1) 0 0] w4 fun x w'=>x= .returned (.tuple #[])/\AK w' P B w3.heap.size D bd bn ob ⟨0,0,0⟩ (Jj (DH d)).synced.calm e/\Ax w4 w' D/\Bm w' f D (.pointer (some ⟨P,0,none⟩))/\Az w' from by
  refine (Zc4 w4 f P _ _ D bd bn ob _ _ _ _ _ _ 0 0 az (by rw[Ib]) I).mono ?_;rintro x w' ⟨rfl,q1,m⟩;exact⟨rfl,q1,m,I.at_ (m.block f (Zaa I.Au) n1),(World.cell?_of_block (a:=⟨0,0,none⟩) (m.block 0 (World.block_lt_of_cell? _ _ aj) (by omega))).trans aj⟩)
 have y0:w4.cell? ⟨fb,0,none⟩=some (.int .i64 (-1)):=by unfold World.cell?;rw[r];rfl
 have y1:w4.cell? ⟨fb,1,none⟩=some (.int .i64 (-1)):=by unfold World.cell?;rw[r];rfl
 have y2:w4.cell? ⟨fb,2,none⟩=some (.int .i64 0):=by unfold World.cell?;rw[r];rfl
 have y3:w4.cell? ⟨fb,3,none⟩=some (.int .i64 0):=by unfold World.cell?;rw[r];rfl
 have HK:=Zz (Zq hold (Zq J (Zq V (Zq Q (Zq F O)))));unfold Zbl at X;clear H b1 f1 K p I g1 g2 g3 g4 g5 n1 n2 n3 l1 l2 l3 l4 l5 r1 r2 M r4 ct b Q V J C F O j bh hold bj bo az r aj
 go_wp2_with (first
  | (go_at_call 36;refine X.o.mono ?_;rintro _ w5 ⟨rfl,q1,m,Z,q4⟩;have H5:=Zz (Zq q1 (Zq m (Zq Z q4)));clear q1 m Z q4)
  | (go_at_call 37;refine (Zch 0 _ H5.o.2.2.2).mono ?_;rintro _ w6 ⟨rfl,g⟩;have H6:=Zz g;clear g))
 go_ret
 obtain⟨hold,J,V,Q,F,O⟩:=HK.o;obtain⟨e1,L,e4,e5,e6,e7,_⟩:=HX.o;obtain⟨q1,m,Z,q4⟩:=H5.o;have g:=H6.o;have db:=m.size
 have cq:HF w w6 f D bd bn:=by
  have p:=ck.o.2.1;have hf:=HP.o.hf;exact⟨g.os.trans (m.os.trans (p.os.trans hf.os)),g.tape.trans (m.tape.trans (p.tape.trans hf.tape)),g.output.trans (m.output.trans (p.output.trans hf.output)),by have:=g.size;omega,fun k u k0 k1 k2 k3=>(g.block k (by omega)).trans ((m.block k (by omega) k1).trans (hold k u k0 k1 k2 k3))⟩
 refine⟨rfl,P,B,w3.heap.size,ob,⟨⟨_,_,q1.below g,Xw e5 e7 L⟩,Z.at_ (g.block f (Zaa Z.Au)),q4.Aj g,?_⟩,Q,V,cq⟩;obtain⟨l1,l2,l3,l4,l5⟩:=HL.o;obtain⟨n1,n2,n3⟩:=z.o.2.2.2.2;exact⟨by omega,by omega,by omega,n1,n2,n3,z.o.2.2.2.1.1⟩
def hTy (t:TypeId):Bool:=[210,288,274,266,272,276,27,92,95].contains t
theorem JS {t:TypeId}(h:hTy t=false):t≠210/\t≠288/\t≠274/\t≠266/\t≠272/\t≠276/\t≠27/\t≠92/\t≠95:=by
 refine⟨?_,?_,?_,?_,?_,?_,?_,?_,?_⟩<;>(intro e;subst e;revert h;decide)
def XQ (cs:Array Value):Prop:=∀t v,cs[0]? ≠some (.iface t v)
structure Sl (w w':World)(rk:Option Nat):Prop where
 size:w.heap.size<=w'.heap.size
 block:∀(k:Nat) (cs:Array Value) (t:TypeId) (fr:Nat×Nat),w.heap[k]? =some (.cells cs t fr)->XQ cs->hTy t=false->w'.heap[k]? =w.heap[k]?
 row:∀k:Nat,rk=some k->w'.heap[k]? =w.heap[k]?
structure XT (w:World)(B:Nat)(ob:Option Nat)(k:Nat):Prop where
 Au:∃cs fr,w.heap[k]? =some (.cells cs 27 fr)/\XQ cs
 Jr:k<B\/ob≠some k
theorem XT.lt {w:World}{B:Nat}{ob:Option Nat}{k:Nat}(h:XT w B ob k):k<w.heap.size:=by obtain⟨cs,fr,e,_⟩:=h.Au;exact Zaa e
structure HH (w wx:World)(hb D bd:Nat)(rk:Option Nat)(Z:Nat)(e:Ab):Prop where
 ex:∃P B R bn ob N,OW w wx hb P B R D bd bn ob N e/\N<=Z/\∀k,rk=some k->XT wx B ob k
theorem HH.mono {w wx:World}{b D bd Z a:Nat}{rk:Option Nat}{e:Ab}(h:HH w wx b D bd rk Z e)(g:Z<=a):HH w wx b D bd rk a e:=by
 obtain⟨P,B,R,bn,ob,N,c,d,f⟩:=h.ex;exact⟨P,B,R,bn,ob,N,c,Zv d g,f⟩
theorem HH.below {w wx d:World}{f D bd Z:Nat}{rk:Option Nat}{e:Ab}(h:HH w wx f D bd rk Z e)(a:Below wx.heap.size wx d):HH w d f D bd rk Z e/\Sl wx d rk:=by
 obtain⟨P,B,R,bn,ob,N,g,i,c⟩:=h.ex;refine⟨⟨P,B,R,bn,ob,N,g.below a,i,fun k b=> ?_⟩,a.size,fun k cs t fr e _ _=>a.block k (Zaa e),fun k b=>a.block k (c k b).lt⟩;obtain⟨cs,fr,e,hn⟩:=(c k b).Au;exact⟨⟨cs,fr,(a.block k (Zaa e)).trans e,hn⟩,(c k b).Jr⟩
theorem HH.Dt {w wx:World}{b D bd Z:Nat}{rk:Option Nat}{e:Ab}(h:HH w wx b D bd rk Z e):Below w.heap.size w wx:=by
 obtain⟨P,B,R,bn,ob,N,a,c,d⟩:=h.ex;exact a.Dt
theorem Bd.apart {w:World}{m P B R D bd bn N k:Nat}{ob:Option Nat}{e:Ab}{cs:Array Value}{t:TypeId}{fr:Nat×Nat}(h:Bd w m P B R D bd bn ob N e)(b:w.heap[k]? =some (.cells cs t fr))(hn:XQ cs)(o:t≠92)(hh:t≠95):k≠m/\k≠P/\k≠D/\k≠bd/\k≠bn:=by
 obtain⟨g,d,a,_⟩:=h.ex;obtain⟨s,u,dk,_⟩:=a.dk.c;obtain⟨q,f3⟩:=a.dk.fd;obtain⟨r,f4⟩:=a.dk.fn
 have hm:∀i f j,AB w i f j->k≠i:=fun i f j p n=>by
  obtain⟨es,c,l,_⟩:=p.own;rw[<-n,b] at l;cases l
 refine⟨Zai b h.host.Au hh,fun x=> ?_,Zai b dk.Au o,hm _ _ _ f3,hm _ _ _ f4⟩;subst x;have c0:=a.log.c0;rw[Zaj b 0] at c0;exact hn _ _ c0
theorem HH.call {w wx d:World}{l P B R D bd bn N g Z m:Nat}{ob b rk:Option Nat}{e e':Ab}(j:OW w wx l P B R D bd bn ob N e)(f:∀k,rk=some k->XT wx B ob k)(n:Bd d l P B R D bd bn b g e')(hf:EF wx d P B R D bd bn ob)(o:As wx ob b)(r:g<=m):HH w d l D bd rk m e'/\Sl wx d rk:=by
 have a:∀k,rk=some k->d.heap[k]? =wx.heap[k]? :=fun k c=>by
  obtain⟨cs,fr,e,hn⟩:=(f k c).Au;obtain⟨a0,a1,a2,a3,a4⟩:=j.host.apart e hn (by decide) (by decide);refine hf.block k (Zaa e) a1 a2 a3 a4 (Zj fun h i e'=> ?_) ?_
  ·rw[e] at e'
   simp only[Option.some.injEq,Obj.cells.injEq] at e';exact absurd e'.2.1 (by decide)
  ·rcases (f k c).Jr with q | q
   ·exact Zu q
   ·exact Zj ⟨cs,_,fr,e,by decide,by decide,by decide,by decide,by decide,fun _ x=>q x.symm⟩
 refine⟨⟨P,B,R,bn,b,g,j.call n hf,r,fun k c=> ?_⟩,hf.size,fun k cs t fr e hn p=> ?_,a⟩
 ·obtain⟨cs,fr,e,hn⟩:=(f k c).Au
  refine⟨⟨cs,fr,(a k c).trans e,hn⟩,?_⟩;rcases (f k c).Jr with q | q
  ·exact Zu q
  ·refine Zj fun x=> ?_
   rcases o k x with y | y
   ·exact q y
   ·have:=Zaa e;omega
 ·obtain⟨t1,t2,t3,t4,t5,t6,t7,t8,t9⟩:=JS p
  obtain⟨a0,a1,a2,a3,a4⟩:=j.host.apart e hn t8 t9;refine hf.block k (Zaa e) a1 a2 a3 a4 (Zj fun h i e'=> ?_) (Zj ⟨cs,t,fr,e,t2,t3,t4,t5,t6,fun x=>absurd x t7⟩);rw[e] at e';simp only[Option.some.injEq,Obj.cells.injEq] at e';exact absurd e'.2.1 t1
theorem YG {w wx:World}{d D bd Z:Nat}{rk:Option Nat}{e:Ab}(h:HH w wx d D bd rk Z e)(ok:Ak e)(AQ:AD e)(k:Z<=1000000000000) :
  Calls prog 61 #[.pointer (some ⟨d,0,none⟩), .agg #[.int .i64 (-1), .int .i64 (-1), .int .i64 0, .int .i64 0]] wx fun x w'=>∃a b c f y e',x= .returned (.tuple #[.agg #[.int .u64 a, .int .i64 b, .int .i64 c, .int .u64 f], .bool y, .int .i64 0])/\IB e a b c f y e'/\HH w w' d D bd rk (Z+1000000) e'/\Sl wx w' rk:=by
 obtain⟨P,B,R,bn,ob,N,g,i,j⟩:=h.ex;refine (If wx d P B R D bd bn N ob e g.host ok AQ (Zv i k)).mono ?_;rintro x w' ⟨l,a,b,c,f,y,e',rfl,q1,m,n,o⟩;exact⟨a,b,c,f,y,e',rfl,q1,HH.call (Z:=Z) g j m o n (by omega)⟩
theorem hh_do {w wx:World}{b D bd Z:Nat}{rk:Option Nat}{e e':Ab}{op:Int}{n:Nat}{y:Int}(h:HH w wx b D bd rk Z e)
  (hc:∀P B R bn ob N,Bd wx b P B R D bd bn ob N e->N<=Z->Calls prog 26 #[.pointer (some ⟨b,0,none⟩), .int .i64 op, .int .u64 n,Zbl (-1) (-1) 0 0] wx fun x w'=>∃a,x= .returned (.int .i64 y)/\Bd w' b P B R D bd bn a (N+1000000) e'/\As wx ob a/\EF wx w' P B R D bd bn ob) :
  Calls prog 26 #[.pointer (some ⟨b,0,none⟩), .int .i64 op, .int .u64 n, .agg #[.int .i64 (-1), .int .i64 (-1), .int .i64 0, .int .i64 0]] wx fun x w'=>x= .returned (.int .i64 y)/\HH w w' b D bd rk (Z+1000000) e'/\Sl wx w' rk:=by
 obtain⟨P,B,R,bn,ob,N,c,d,f⟩:=h.ex;refine (hc P B R bn ob N c.host d).mono ?_;rintro x w' ⟨a,rfl,g,i,j⟩;exact⟨rfl,HH.call (Z:=Z) c f g j i (by omega)⟩
theorem OA {w wx:World}{a D bd Z n:Nat}{rk:Option Nat}{e:Ab}(h:HH w wx a D bd rk Z e)(ok:Ak e)(AQ:AD e)(b:Z<=1000000000000)(hn:n<18446744073709551616) :
  Calls prog 26 #[.pointer (some ⟨a,0,none⟩), .int .i64 4, .int .u64 n, .agg #[.int .i64 (-1), .int .i64 (-1), .int .i64 0, .int .i64 0]] wx fun x w'=>x= .returned (.int .i64 (Jm 7 (e.complete n)))/\HH w w' a D bd rk (Z+1000000) ((e.complete n).getD e)/\Sl wx w' rk :=
 hh_do h fun P B R bn ob N q1 c=>Ox wx a P B R D bd bn N ob e n q1 ok AQ (Zv c b) hn
theorem YD {w wx:World}{a D bd Z n:Nat}{rk:Option Nat}{e:Ab}(h:HH w wx a D bd rk Z e)(ok:Ak e)(AQ:AD e)(b:Z<=1000000000000)(hn:n<18446744073709551616) :
  Calls prog 26 #[.pointer (some ⟨a,0,none⟩), .int .i64 5, .int .u64 n, .agg #[.int .i64 (-1), .int .i64 (-1), .int .i64 0, .int .i64 0]] wx fun x w'=>x= .returned (.int .i64 (Jm 7 (e.fail n)))/\HH w w' a D bd rk (Z+1000000) ((e.fail n).getD e)/\Sl wx w' rk :=
 hh_do h fun P B R bn ob N q1 c=>Oy wx a P B R D bd bn N ob e n q1 ok AQ (Zv c b) hn
theorem YH {w wx:World}{b D bd Z n:Nat}{rk:Option Nat}{e:Ab}(h:HH w wx b D bd rk Z e)(ok:Ak e)(AQ:AD e)(g:Z<=1000000000000)(hn:n<18446744073709551616) :
  Calls prog 26 #[.pointer (some ⟨b,0,none⟩), .int .i64 7, .int .u64 n, .agg #[.int .i64 (-1), .int .i64 (-1), .int .i64 0, .int .i64 0]] wx fun x w'=>x= .returned (.int .i64 0)/\∃a,BU e n a/\HH w w' b D bd rk (Z+1000000) a/\Sl wx w' rk:=by
 obtain⟨P,B,R,bn,ob,N,c,d,f⟩:=h.ex;refine (Oz wx b P B R D bd bn N ob e n c.host ok AQ (Zv d g) hn).mono ?_;rintro x w' ⟨i,a,rfl,q1,j,k,l⟩;exact⟨rfl,a,q1,HH.call (Z:=Z) c f j l k (by omega)⟩
theorem Vm {w wx:World}{a D bd Z:Nat}{rk:Option Nat}{e:Ab}(h:HH w wx a D bd rk Z e)(id:Int) :
  Calls prog 27 #[.pointer (some ⟨a,0,none⟩), .int .u64 id] wx fun x w'=>∃v b,x= .returned (.tuple #[v, .int .i64 b])/\DY wx.heap.size w' e id v b/\Below wx.heap.size wx w':=by
 obtain⟨P,B,R,bn,ob,N,c,d,f⟩:=h.ex;exact JU wx a P B R D bd bn N ob e id c.host
structure HL (w wx:World)(hb D bd:Nat)(rk:Option Nat)(Z:Nat)(e:Ab):Prop where
 ex:∃R bn N recs,Rj wx hb R D bd bn N recs e/\N<=Z/\Below w.heap.size w wx/\(w.heap.size<=hb/\w.heap.size<=D/\w.heap.size<=bd)/\w.heap.size<=bn/\∀k,rk=some k->∃cs fr,wx.heap[k]? =some (.cells cs 27 fr)
theorem HF.low {w wx d:World}{b D bd bn:Nat}(h:HF wx d b D bd bn)(a:Below w.heap.size w wx)(hf:(w.heap.size<=b/\w.heap.size<=D/\w.heap.size<=bd)/\w.heap.size<=bn):Below w.heap.size w d :=
 ⟨h.os.trans a.os,h.tape.trans a.tape,h.output.trans a.output,Zv a.size h.size,fun k c=>(h.block k (Zy c a.size) (by omega) (by omega) (by omega) (by omega)).trans (a.block k c)⟩
theorem YE {w wx:World}{d D bd Z:Nat}{rk:Option Nat}{e:Ab}(h:HH w wx d D bd rk Z e)(kept part:Int)(m: -9223372036854775808<=part/\part<=9223372036854775807) :
  Calls prog 25 #[.pointer (some ⟨d,0,none⟩), .int .i64 kept, .int .i64 part] wx fun x w'=>x= .returned (.tuple #[])/\HL w w' d D bd rk Z e/\Sl wx w' rk:=by
 obtain⟨P,B,R,bn,ob,N,b,l,j⟩:=h.ex;refine (Tb wx d P B R D bd bn N ob e kept part b.host m).mono ?_;rintro x w' ⟨rfl,i,c,q1,p,g⟩;obtain⟨⟨f1,f2,f3,f4,f5⟩,f6,f7⟩:=b.Jr;have n:=b.Dt.size
 have a:∀k,rk=some k->w'.heap[k]? =wx.heap[k]? :=fun k f=>by
  obtain⟨cs,fr,e,hn⟩:=(j k f).Au;obtain⟨a0,a1,a2,a3,a4⟩:=b.host.apart e hn (by decide) (by decide);exact g.block k (Zaa e) a0 a2 a3 a4
 refine⟨rfl,⟨_,i,N,c,p,l,g.low b.Dt ⟨⟨f1,f3,f4⟩,f5⟩,⟨f1,f3,f4⟩,Zv n q1,fun k f=> ?_⟩,g.size,fun k cs t fr e hn o=> ?_,a⟩
 ·obtain⟨cs,fr,e,hn⟩:=(j k f).Au
  exact⟨cs,fr,(a k f).trans e⟩
 ·obtain⟨t1,t2,t3,t4,t5,t6,t7,t8,t9⟩:=JS o
  obtain⟨a0,a1,a2,a3,a4⟩:=b.host.apart e hn t8 t9;exact g.block k (Zaa e) a0 a2 a3 a4
theorem YF {w wx:World}{l D bd Z:Nat}{rk:Option Nat}{e:Ab}(h:HL w wx l D bd rk Z e)(E:e.Ah≠0)(AQ:AD e)(G:Z<=1000000000000)(q:∀k,rk=some k->∀cs fr,wx.heap[k]? =some (.cells cs 27 fr)->XQ cs) :
  Calls prog 12 #[.pointer (some ⟨l,0,none⟩), .agg #[.int .i64 (-1), .int .i64 (-1), .int .i64 0, .int .i64 0]] wx fun x w'=>x= .returned (.int .i64 0)/\HH w w' l D bd rk Z e/\Sl wx w' rk:=by
 obtain⟨R,bn,N,i,j,u,v,m,y,z⟩:=h.ex
 have hrec:i≠[]:=fun x=>by
  subst x;have:=j.log
  cases this
  exact E rfl
 obtain⟨Q,S,dk,_⟩:=j.dk.c;obtain⟨L,f3⟩:=j.dk.fd;obtain⟨M,f4⟩:=j.dk.fn
 have Jr:∀(k:Nat) (cs:Array Value) (t:TypeId) (fr:Nat×Nat),wx.heap[k]? =some (.cells cs t fr)->t≠92->t≠95->k≠l/\k≠D/\k≠bd/\k≠bn:=fun k cs t fr a H hh=>by
  have hm:∀o f r,AB wx o f r->k≠o:=fun o f r J C=>by
   obtain⟨es,c,s,_⟩:=J.own;rw[<-C,a] at s;cases s
  exact⟨Zai a j.host.Au hh,Zai a dk.Au H,hm _ _ _ f3,hm _ _ _ f4⟩
 refine (Qi wx l R D bd bn N i e j hrec AQ (Zv u G)).mono ?_;rintro x w' ⟨rfl,P,B,A,ob,q1,T,U,n⟩
 have b:∀k,rk=some k->w'.heap[k]? =wx.heap[k]? :=fun k a=>by
  obtain⟨cs,fr,e⟩:=z k a;obtain⟨a0,a2,a3,a4⟩:=Jr k cs _ fr e (by decide) (by decide);exact n.block k (Zaa e) a0 a2 a3 a4
 have O:=v.size;obtain⟨g,d,K,_⟩:=q1.ex;have F:=K.ne.p;refine⟨rfl,⟨P,B,A,bn,ob,N,⟨q1,n.low v ⟨m,y⟩,⟨m.1,by omega,m.2.1,m.2.2,y⟩,by omega,by omega⟩,u,fun k a=> ?_⟩,n.size,fun k cs t fr e hn I=> ?_,b⟩
 ·obtain⟨cs,fr,e⟩:=z k a
  exact⟨⟨cs,fr,(b k a).trans e,q k a cs fr e⟩,Zu (by have:=Zaa e;omega)⟩
 ·obtain⟨t1,t2,t3,t4,t5,t6,t7,t8,t9⟩:=JS I
  obtain⟨a0,a2,a3,a4⟩:=Jr k cs t fr e t8 t9;exact n.block k (Zaa e) a0 a2 a3 a4
open Go.RowKit Go.Shelf
attribute [local go_sem ↓] Go.wp_at_zero Go.wp_at_succ
theorem Uf {x:Nat}(h:x<18446744073709551616)(a:∀s,s<64->x.testBit s=false):x=0:=by
 refine Nat.eq_of_testBit_eq fun i=> ?_;rw[Nat.zero_testBit];by_cases c:i<64
 ·exact a i c
 ·exact Nat.testBit_lt_two_pow (Zy h (Nat.pow_le_pow_right (n:=2) (i:=64) (by decide) (by omega)))
theorem Bf.words0 {w:World}{P B:Nat}{K:Nat->Prop}{now:Nat}(h:Bf w P B K now []):∀k,k<11->w.cell? ⟨P,717+k,none⟩=some (.int .u64 0):=by
 obtain⟨g,Bz,wd,hp,_,hw⟩:=h.mem;intro k b;have a:=hp.cw k b;obtain⟨c,d⟩:=hw k b
 have:wd k=0:=Uf c fun s f=>by
  cases e:(wd k).testBit s with
  | false=>rfl
  | true=>exact absurd rfl ((d s f).1 e)
 rw[this] at a;exact a
theorem Re (w:World)(P i:Nat)(l:Value)(m:w.cell? ⟨i,0,none⟩=some (.pointer (some ⟨P,11,none⟩)))(a:∀k,k<11->w.cell? ⟨P,717+k,none⟩=some (.int .u64 0)) :
  Calls prog 235 #[l, .pointer (some ⟨i,0,none⟩)] w fun e w'=>e= .returned (.tuple #[])/\w'=w:=by
 have c0:=a 0 (by decide);have c1:=a 1 (by decide);have c2:=a 2 (by decide);have c3:=a 3 (by decide);have c4:=a 4 (by decide);have c5:=a 5 (by decide);have c6:=a 6 (by decide);have c7:=a 7 (by decide);have c8:=a 8 (by decide);have c9:=a 9 (by decide);have d:=a 10 (by decide)
 have b:∀k:Nat,k<11->(Instr.index 159 (Iu (fun _=>0)) (.int .i64 k)).run prog w= .ok (.int .u64 0) w:=fun k h=>by
  have:=Xt (fun _=>0) w k h;exact this
 have g:Hid (Iu (fun _=>0)= .agg #[.int .u64 0, .int .u64 0, .int .u64 0, .int .u64 0, .int .u64 0, .int .u64 0, .int .u64 0, .int .u64 0, .int .u64 0, .int .u64 0, .int .u64 0]):=Zz rfl;have c:=Zz b;clear a b
 go_enter func235,ntmps235
 go_wp2_with fail
 rw[<-g.o];clear g c0 c1 c2 c3 c4 c5 c6 c7 c8 c9 d
 generalize Iu (fun _=>0)=AV at *
 go_loopw [11] (fun f wr=>∃k:Nat,f= .int .i64 k/\k<=11/\wr=w) (fun f _=>11 - (intOf f).toNat)
 case atStart=>exact⟨0,rfl,by omega,rfl⟩
 case round =>
  obtain⟨k,rfl,h,rfl⟩:=hrel;by_cases j:k<11
  ·have b:=c.o k j
   go_wp2_with fail
   rename World=>wr
   go_loopw [4] (fun v wx=>v= .int .u64 0/\wx=wr) (fun _ _=>0)
   case atStart=>exact⟨rfl,rfl⟩
   case round =>
    obtain⟨rfl,rfl⟩:=hrel;go_wp2_with fail
    exact⟨⟨k+1,by push_cast;rfl,by omega,trivial⟩,by simp[intOf];omega⟩
  ·obtain rfl:k=11:=by omega
   go_wp2_with fail
   go_end0
   exact⟨rfl,rfl⟩
theorem Xv (w:World)(P:Nat):Calls prog 161 #[.pointer (some ⟨P,11,none⟩)] w fun x w'=>x= .returned (.func (.func 235) #[] #[.pointer (some ⟨w.heap.size,0,none⟩)])/\w'=w.alloc (.cells #[.pointer (some ⟨P,11,none⟩)] 379):=by
 have a:∀(fn:Fn) (first cap:Array Value) (w:World),(Instr.makeFunc fn first cap).run prog w= .ok (.func fn first cap) w:=fun _ _ _ _=>rfl
 go_enter func161,ntmps161
 go_wp2_with fail
 go_ret
 exact⟨rfl,rfl⟩
theorem Be.none_ {e:Ab}{l:List Tm}(h:Be e l)(b:∀d,¬BA e d):l=[]:=by
 cases l with
 | nil=>rfl
 | cons t l =>
  obtain⟨d,a,_⟩:=h.mem t (List.mem_cons_self ..);exact absurd (Zar.1 a) (b d)
section
attribute [local go_sem] Oper.semAt_some
theorem MK (w:World)(P B:Nat)(ob:Option Nat)(e:Ab)(h:BY w P B ob e)(N:∀d,¬BA e d) :
  Calls prog 116 #[.pointer (some ⟨P,4,none⟩)] w fun x w'=>x= .returned (.slice none 0 0)/\Below w.heap.size w w':=by
 obtain⟨rs,l,H,G⟩:=h;obtain rfl:=G.none_ N;obtain⟨_,now,E,_⟩:=H.ex;have z:=E.wh.words0;have M:=World.block_lt_of_cell? _ _ (z 0 (by omega));obtain⟨b,a⟩:∃b,b=w.alloc (.cells #[.slice none 0 0] 82):=⟨_,rfl⟩;obtain⟨j,f⟩:∃j,j=b.alloc (.cells #[.pointer (some ⟨P,11,none⟩)] 379):=⟨_,rfl⟩;have m:Below w.heap.size w b:=by rw[a];exact (Zk _ _).alloc (Zx _) _
 have p:Below b.heap.size b j:=by rw[f];exact (Zk _ _).alloc (Zx _) _
 have t:b.heap.size=w.heap.size+1:=by rw[a];simp
 have R:j.heap.size=w.heap.size+1+1:=by rw[f,World.size_alloc,t]
 have u:b.cell? ⟨w.heap.size,0,none⟩=some (.slice none 0 0):=by rw[a];exact World.cell?_alloc_new _ _ _ _
 have v:j.cell? ⟨b.heap.size,0,none⟩=some (.pointer (some ⟨P,11,none⟩)):=by rw[f];exact World.cell?_alloc_new _ _ _ _
 have r:j.cell? ⟨w.heap.size,0,none⟩=some (.slice none 0 0):=cell_later p u;have i:Below w.heap.size w j:=m.trans (p.mono m.size);have g:=Zz (Xv b P);have S:=Zz (Zq a (Zq f (Zq m p)))
 have q:=Zz (show ∀n,1<=n->SeqStopsK (α:=Empty) Fence.wide n prog 235 #[.pointer (some ⟨b.heap.size,0,none⟩)] (fun x=>x.elim) (Below w.heap.size) (fun xs=>xs=[]) (fun _=>False) 0 j from fun n hn l J T W F X L Y I=>by
  refine callsIn_wide.2 ((Re W P b.heap.size _ (cell_later F v) (fun k O=>cell_later F (cell_later i (z k O)))).mono ?_);rintro e U ⟨rfl,rfl⟩;exact⟨⟨_,rfl⟩,Zu ⟨[],rfl,I⟩⟩)
 clear E G H z;rw[a] at g;refine (callsIn_wide (n:=6)).1 ?_;refine callsIn_of_wp_marks func116 rfl trivial ?_ rfl;simp only[ntmps116,List.size_toArray,List.length_cons,List.length_nil,Nat.reduceAdd,Nat.reduceSub,Array.replicate_succ,Array.replicate_zero,List.push_toArray,List.append_toArray,List.nil_append,List.cons_append]
 gi_wp2_with (refine⟨trivial,?_⟩;gi_at_call 161;refine (callsIn_wide.2 g.o).mono ?_;rintro e w' ⟨rfl,rfl⟩)
 rw[<-a,<-f,<-t]
 refine wpIn_rangeFunc_ownF (α:=Empty) (Kp:=Below w.heap.size) (gf:=235) (lb:=#[.pointer (some ⟨b.heap.size,0,none⟩)]) rfl (by decide) (by rfl) trivial (enters_of func235 (by kernel_rfl) rfl)
  (q.o 5 (by decide)) belowK_t (belowK_b (by omega)) (Zk _ _) (fun x=>x.elim)
  (fun _ W=>(W.cell? ⟨w.heap.size,0,none⟩=some (.slice none 0 0))/\Below w.heap.size w W)
  (fun _ _ _=>False)
  (OwnFrom.and (Own.from (fun s A B row y hg Q=>cell_kept y hg Q) _) (ownFrom_below (Zx _) (by omega)))
  (fun _ _ _ _ _ y _ _=>y)
  ⟨r,i⟩ (fun x=>x.elim) ?assign ?body ?done ?stop
 case assign=>exact fun _ x=>x.elim
 case body=>exact fun _ _ x=>x.elim
 case done =>
  rintro D ys W V rfl ⟨Z,K⟩ C
  gi_wp2
  refine⟨by simp, .inl ⟨_,_,rfl,run_takeDeferred C,?_⟩⟩;exact⟨_,results_tmp rfl _ _ _,rfl,K.trans (belowK_b (w:=w) (Zx _) W D _ _ (by omega) C rfl rfl)⟩
 case stop =>
  rintro D c pre W _ _ h _;exact h.elim
end
theorem Mz (w:World)(P B:Nat)(ob:Option Nat)(e:Ab)(h:BY w P B ob e)(c:∀d,¬BA e d) :
  Calls prog 74 #[.pointer (some ⟨P,0,none⟩)] w fun x w'=>x= .returned (.slice none 0 0)/\Below w.heap.size w w':=by
 have g:=Zz (MK w P B ob e h c);clear h c
 go_enter func74,ntmps74
 go_wp2_with (first
  | (go_at_call 107;refine (Zci _ P).mono ?_;rintro _ i ⟨rfl,a⟩;rw[a])
  | (go_at_call 116;refine g.o.mono ?_;rintro _ j ⟨rfl,b⟩;have f:=Zz b;clear b))
 go_ret
 exact⟨rfl,f.o⟩
theorem Ta {w wx:World}{a D bd Z:Nat}{rk:Option Nat}{e:Ab}(h:HH w wx a D bd rk Z e)(f:∀d,¬BA e d) :
  Calls prog 28 #[.pointer (some ⟨a,0,none⟩)] wx fun x w'=>x= .returned (.slice none 0 0)/\Below wx.heap.size wx w':=by
 obtain⟨P,B,R,bn,ob,N,b,_,_⟩:=h.ex;obtain⟨g,d,c,_⟩:=b.host.ex;have j:=Zz (Mz wx P B ob e c.kp f);have c1:=b.host.host.cells.2;clear h b c f
 go_enter func28,ntmps28
 go_wp2_with (go_at_call 74;refine j.o.mono ?_;rintro _ k ⟨rfl,a⟩;have i:=Zz a;clear a)
 go_ret
 exact⟨rfl,i.o⟩
end Go.Proofs.YtgdcjccbdmcebaaGreatDoor
