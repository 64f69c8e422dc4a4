/- The law Ends answers true for all raw numbers that can be handed in, and leaves them as they were: behind its bound, where what is ready is polled in time, and behind its deadline in any case, a run has ended. The condition: the tables of math/bits, the type error of package errors and the names of the log's files read as the program's text lays them. -/
import Derived.Test.YtgdcjccbdmcebaaGreatDoorM53
import Derived.Test.YtgdcjccbdmcebaaGreatDoorCards
import Derived.Test.YtgdcjccbdmcebaaGreatDoorTie
import Derived.OpenShut
import Derived.Lib.SmallJoins
import Derived.Deep.Slices
import Derived.SizedLaws
import Derived.Deep.DeepHandedRow
set_option linter.unusedSimpArgs false
set_option linter.unusedVariables false
set_option maxRecDepth 100000
set_option maxHeartbeats 16000000
open Go.Proofs.Tryz
namespace Go.Proofs.YtgdcjccbdmcebaaGreatDoor
open Go.RowKit
attribute [local go_sem ↓] Go.wp_at_zero Go.wp_at_succ
variable {rk ob:Option Nat}{w wx wr wy:World}{pl:Bool}{e:Ab}{hb bd ub bb D Z g t:Nat}{F:Ad}{cs:Array Value}{fr:Nat×Nat}{la:Option Addr}
theorem HH.of_ow {P B R bn N:Nat}(h:OW w wx hb P B R D bd bn ob N e)(b:N<=Z):HH w wx hb D bd none Z e:=⟨P,B,R,bn,ob,N,h,b,fun k a=>by cases a⟩
theorem HH.Xz {k:Nat}(h:HH w wx hb D bd none Z e)(b:Below wx.heap.size wx wy)(v:wx.heap.size<=k)(r:wy.heap[k]? =some (.cells cs 27 fr))(hn:XQ cs):HH w wy hb D bd (some k) Z e:=by
 obtain⟨P,B,R,bn,ob,N,j,m,u⟩:=h.ex;refine⟨P,B,R,bn,ob,N,j.below b,m,fun k' i=> ?_⟩;obtain rfl:=Option.some.inj i;refine⟨⟨cs,fr,r,hn⟩,Zj fun x=> ?_⟩;obtain⟨g,d,q,_⟩:=j.host.ex;obtain⟨rs,l,s,_⟩:=q.kp;obtain⟨_,_,o,_⟩:=s.ex;obtain⟨a,n,c,f,y,he,p⟩:=o.en;have:=(he.row.lt k (p.trans x)).2;omega
theorem SZ {B0 d c L:Nat}(h:HH w wx hb D bd rk Z e)(ok:Ak e)(AQ:AD e)(o:Z<=1000000000000)(a:BQ F)(m:L=(Zat F).length)(p:Al B0 wx (.slice (some ⟨d,0,none⟩) L c) (Zat F)) :
  Calls prog 60 #[.pointer (some ⟨hb,0,none⟩), .slice (some ⟨d,0,none⟩) L c, .agg #[.int .i64 (-1), .int .i64 (-1), .int .i64 0, .int .i64 0]] wx fun x w'=>∃G n b,x= .returned (.tuple #[.int .u64 n, .int .i64 b, .int .i64 (-1)])/\(BQ G/\G.dl=F.dl/\G.n=F.n/\Ce F G F.n)/\b=Jm 5 (e.AN G)/\n=(if b=0 then e.Ah+1 else 0)/\HH w w' hb D bd rk (Z+1000000) ((e.AN G).getD e)/\Sl wx w' rk:=by
 obtain⟨P,B,R,bn,ob,N,i,j,k⟩:=h.ex;have l:1<=(Zat F).length:=by have:=Ed (F:=F) a.top.n1;omega
 have E:=LG a.top a.nat;subst m;refine (IJ wx hb P B R D bd bn N B0 d c ob e (Zat F) i.host ok AQ (Zv j o) p (JQ F) l (by omega)).mono ?_;rintro x w' ⟨q,n,b,at_,e',rfl,q1,r,s,u⟩;rcases q1 with⟨f,z2,_⟩ | ⟨y,f,rfl,rfl,rfl,rfl⟩
 ·exact absurd (My a z2).1 f
 ·obtain⟨_,r2,v,z,A,C⟩:=My a f
  exact⟨_,_,_,rfl,⟨v,z,A,C⟩,rfl,rfl,HH.call (Z:=Z) i k r u s (by omega)⟩
def waC (hb:Nat)(dl:Int)(la:Option Addr)(n lc:Nat)(tv:Value)(rk tb:Nat)(ir is:Int)(iv jv:Value):Array Value:=#[.pointer (some ⟨hb,0,none⟩), .int .i64 dl, .slice la n lc, .int .u64 2,tv, .slice (some ⟨rk,0,none⟩) n n, .slice (some ⟨tb,0,none⟩) n n, .int .u64 ir, .int .i64 is,iv,jv]
structure StrS (w w':World)(ub hb D bd rk tb:Nat)(F:Ad)(la:Option Addr)(lc:Nat):Prop where
 Au:w'.heap[ub]? =some (.cells (waC hb F.dl la F.n lc (.slice none 0 0) rk tb 0 0 (.slice none 0 0) (.slice none 0 0)) 77 (0,0))
 Jr:w.heap.size<=ub/\w.heap.size<=rk/\w.heap.size<=tb
 rr:w'.rowIs rk 27 F.n (fun _=> .int .u64 0)
 tr:w'.rowIs tb 3 F.n (fun _=> .int .i64 0)
theorem infoU:(prog.info? 27).map (fun i=>(i.zero,i.size,i.bytes))=some (some (.int .u64 0),1,8):=by kernel_rfl
theorem infoI:(prog.info? 3).map (fun i=>(i.zero,i.size,i.bytes))=some (some (.int .i64 0),1,8):=by kernel_rfl
theorem Xe {a b:World}{rk tb n lc:Nat}{dl:Int}{G:Ad}(h:HH w a hb D bd none 13000000 e)(p:FW e G)(o:G.dl=F.dl/\G.n=F.n/\Ce F G F.n)(j:1<=F.n)(hn:n=F.n)(i:dl=F.dl)(d:Below a.heap.size a b)(m:a.heap.size<=rk)(r:a.heap.size<=tb)(s:a.heap.size<=ub)(r1:b.rowIs rk 27 n (fun _=> .int .u64 0))(r2:b.rowIs tb 3 n (fun _=> .int .i64 0))
  (hu:b.heap[ub]? =some (.cells #[.pointer (some ⟨hb,0,none⟩), .int .i64 dl, .slice la n lc, .int .u64 2, .slice none 0 0, .slice (some ⟨rk,0,none⟩) n n, .slice (some ⟨tb,0,none⟩) n n, .int .u64 0, .int .i64 0, .slice none 0 0, .slice none 0 0] 77 (0,0))):HH w b hb D bd (some rk) 13000000 e/\FW e G/\(G.dl=dl/\G.n=n/\Ce F G n)/\StrS w b ub hb D bd rk tb F la lc:=by
 subst hn i;obtain⟨c,k,f,l⟩:=r1;have q:=h.Dt.size;exact⟨h.Xz d m k (fun t v x=>by rw[l 0 j] at x;cases x),p,o,hu,by omega,⟨c,k,f,l⟩,r2⟩
theorem Qp (w:World)(B0:Nat)(F:Ad)(la:Option Addr)(lc:Nat)(Na:Nat->Option Addr)(Nc:Nat->Nat)(q:An B0 w F (.slice la F.n lc) F.n Na Nc)(hw:De F F.n)(H:1<=F.n)(S:F.n<=12)(he:Az w)(av:Za4 w)(X:AL w)(hg:4<w.heap.size)(d:2<w.heap.size)(al:0<w.heap.size) :
  Calls prog 19 #[Ex F.dl (.slice la F.n lc)] w fun x w'=>∃ub hb D bd rk tb e G,x= .returned (.pointer (some ⟨ub,0,none⟩))/\HH w w' hb D bd (some rk) 13000000 e/\FW e G/\(G.dl=F.dl/\G.n=F.n/\Ce F G F.n)/\StrS w w' ub hb D bd rk tb F la lc:=by
 obtain⟨fb,U⟩:∃fb,fb=w.heap.size:=⟨_,rfl⟩;obtain⟨w1,A⟩:∃w1,w1=w.alloc (.cells #[.int .i64 F.dl, .slice la F.n lc] 61):=⟨_,rfl⟩;have b:Below w.heap.size w w1:=by rw[A];exact (Zk _ _).alloc (Zx _) _
 have aj:w1.heap[fb]? =some (.cells #[.int .i64 F.dl, .slice la F.n lc] 61 (0,0)):=by rw[A,U];exact heap_alloc_new w _
 have Y:=Zz (QF w1 (he.Aj b) (fun i hi=>cell_later b (av i hi)) (X.Aj d b) (Zy hg b.size) (Zy d b.size) (Zy al b.size));have HW:=Zz (fun wx=>Fx wx);unfold Zbl at HW;have HF:=Zz (Zq q (Zq hw (Zq H (Zq S (Zq X d)))));have Q:=Zz (Zq A (Zq U (Zq b aj)));obtain⟨n,hn⟩:∃n,n=F.n:=⟨_,rfl⟩;obtain⟨dl,T⟩:∃dl,dl=F.dl:=⟨_,rfl⟩;have h:=Zz (Zq hn T);have az:n<=12:=by omega
 unfold Ex;rw[<-hn,<-T];clear q hw H S he av X hg d al A U b aj hn T
 go_enter func19,ntmps19
 go_upto_region 1 with fail
 rw[h.o.1,h.o.2,<-Q.o.2.1,<-Q.o.1,<-h.o.1,<-h.o.2]
 go_upto_region 2 with (go_at_call 58;refine Y.o.mono ?_;rintro _ M ⟨hb,P,B,R,D,bd,bn,ob,f,rfl,q1,W⟩;have N:=Zz (Zq q1 W);clear q1 W)
 have k:Below w.heap.size w M:=Q.o.2.2.1.trans (N.o.1.Dt.mono Q.o.2.2.1.size);have r:=(N.o.1.Dt.block fb (Zaa Q.o.2.2.2)).trans Q.o.2.2.2;rw[<-h.o.1,<-h.o.2] at r;have z0:=Zaj r 0;have z1:=Zaj r 1
 have E:=Zz (show Calls prog 59 #[.agg #[.int .i64 dl, .slice la n lc]] M fun x w'=>∃bg c L,x= .returned (.tuple #[.slice (some ⟨bg,0,none⟩) L c, .int .i64 0, .int .i64 (-1)])/\L=(Zat F).length/\Al M.heap.size w' (.slice (some ⟨bg,0,none⟩) L c) (Zat F)/\Below M.heap.size M w' from by
  obtain⟨q,hw,H,S,X,d⟩:=HF.o;have ax:=(q.Vf (by omega) (fun i hi=>by have:=hw.an H S i hi;omega) X d).Aj k;rw[h.o.1,h.o.2];refine (IY F la lc Na Nc M ax N.o.1.host.err).mono ?_;rintro e w3 ⟨⟨v,x,y,l,rfl,ag,K,ay,b9⟩,s⟩;obtain⟨rfl,rfl⟩:=ag.one (hw.chk H S);obtain rfl:=ay rfl;have h9:1<=(Zat F).length:=by have:=Ed (F:=F) H;omega
  rcases K.2 with⟨_,x2⟩ | ⟨g,cap,cur,rfl,_⟩
  ·omega
  ·exact⟨g,cap,_,rfl,rfl,K,s⟩)
 have O:=Zz (Zq k r);clear k r
 go_upto_region 5 with (go_at_call 59;refine E.o.mono ?_;rintro _ w3 ⟨bg,bc,L,rfl,hL,u,s⟩;have H3:=Zz (Zq hL (Zq u s));clear hL u s)
 clear z0 z1
 have ae:=Zz (show ∀w4,Below w3.heap.size w3 w4->Calls prog 60 #[.pointer (some ⟨hb,0,none⟩), .slice (some ⟨bg,0,none⟩) L bc, .agg #[.int .i64 (-1), .int .i64 (-1), .int .i64 0, .int .i64 0]] w4 fun x w'=>∃e G,x= .returned (.tuple #[.int .u64 2, .int .i64 0, .int .i64 (-1)])/\HH w w' hb D bd none 13000000 e/\FW e G/\(G.dl=F.dl/\G.n=F.n/\Ce F G F.n)/\w'.heap[fb]? =some (.cells #[.int .i64 dl, .slice la n lc] 61 (0,0)) from fun w4 p=>by
  obtain⟨q,hw,H,S,X,d⟩:=HF.o;have z:=hw.ok H S;have aw:BQ F:=⟨z.1,fun j hj=>(z.2.1 j hj).1,fun j hj=>(z.2.1 j hj).2,z.2.2⟩;have I:=H3.o.2.2.trans (p.mono H3.o.2.2.size);have hH:HH w w4 hb D bd none 11000000 (o8 f):=HH.of_ow (P:=P) (B:=B) (R:=R) (bn:=bn) (ob:=ob) ((show OW w M hb P B R D bd bn ob 11000000 (o8 f) from⟨N.o.1.host,O.o.1,by obtain⟨⟨f1,f2,f3,f4,f5⟩,f6,f7⟩:=N.o.1.Jr;have:=Q.o.2.2.1.size;omega⟩).below I) (Zx _);have J:=(I.block fb (Zaa O.o.2)).trans O.o.2
  have u:Al M.heap.size w4 (.slice (some ⟨bg,0,none⟩) L bc) (Zat F):=by
   have:=H3.o.2.1.below p;exact this
  refine (SZ hH N.o.2.k8 (CW (by show (1:Int)<=100;decide) (by show (3:Int)<=1000000;decide) rfl) (by omega) aw H3.o.1 u).mono ?_;rintro x w' ⟨G,m,er,rfl,⟨g1,g2,g3,g4⟩,rfl,rfl,q1,W⟩;obtain⟨e,s1,s2⟩:=TM N.o.2 g1;rw[s1] at q1 ⊢;exact⟨e,G,rfl,q1.mono (by omega),s2,⟨g2,g3,g4⟩,(W.block fb _ _ _ J (fun t v x=>by cases x) (by decide)).trans J⟩)
 clear E Y
 go_upto_region 6 with (first
  | (go_at_call 13;refine (HW.o _).mono ?_;rintro _ w4 ⟨rfl,p⟩;have H4:=Zz p;clear p)
  | (go_at_call 60;refine (ae.o w4 H4.o).mono ?_;rintro _ a ⟨e,G,rfl,q1,W,q3,q4⟩;have C:=Zz (Zq q1 (Zq W (Zq q3 q4)));clear q1 W q3 q4))
 have z0:=Zaj C.o.2.2.2 0;have z1:=Zaj C.o.2.2.2 1;have ar:=run_make_row' (P:=prog) 75 27 (.int .u64 0) 8 underlying75 infoU rfl .i64 .i64 n (by omega) (by omega);have au:=run_make_row' (P:=prog) 24 3 (.int .i64 0) 8 underlying24 infoI rfl .i64 .i64 n (by omega) (by omega);have y0:∀o,(a.alloc o).cell? ⟨fb,0,none⟩=some (.int .i64 dl):=fun o=>cell_later ((Zk _ _).alloc (Zx _) o) z0;have y1:∀o,(a.alloc o).cell? ⟨fb,1,none⟩=some (.slice la n lc):=fun o=>cell_later ((Zk _ _).alloc (Zx _) o) z1;have x0:∀o V,((a.alloc o).alloc V).cell? ⟨fb,0,none⟩=some (.int .i64 dl):=fun o V=>cell_later (((Zk _ _).alloc (Zx _) o).alloc (by simp) V) z0
 have x1:∀o V,((a.alloc o).alloc V).cell? ⟨fb,1,none⟩=some (.slice la n lc):=fun o V=>cell_later (((Zk _ _).alloc (Zx _) o).alloc (by simp) V) z1
 clear ae
 go_upto_region 8 with fail
 go_region
 all_goals clear x0 x1 y0 y1 z0 z1 ar au
 all_goals go_wp2_with fail
 all_goals go_ret
 ·refine⟨a.heap.size+1+1,hb,D,bd,a.heap.size,a.heap.size+1,e,G,rfl,?_⟩
  refine Xe (rk:=a.heap.size) (tb:=a.heap.size+1) (ub:=a.heap.size+1+1) C.o.1 C.o.2.1 C.o.2.2.1 HF.o.2.2.1 h.o.1 h.o.2 ((((Zk _ _).alloc (Zx _) _).alloc (by simp) _).alloc (by simp;omega) _).drew (Zx _) (by omega) (by omega) (((World.rowIs_made a _ n _).alloc _).alloc _).drew ?_ ?_
  ·have:=World.rowIs_made (a.alloc (.cells (madeCells #[.int .u64 0] n) 27)) (.int .i64 0) n 3
   rw[World.size_alloc] at this;exact (this.alloc _).drew
  ·have:=heap_alloc_new ((a.alloc (.cells (madeCells #[.int .u64 0] n) 27)).alloc (.cells (madeCells #[.int .i64 0] n) 3)) (.cells #[.pointer (some ⟨hb,0,none⟩), .int .i64 dl, .slice la n lc, .int .u64 2, .slice none 0 0, .slice (some ⟨a.heap.size,0,none⟩) n n, .slice (some ⟨a.heap.size+1,0,none⟩) n n, .int .u64 0, .int .i64 0, .slice none 0 0, .slice none 0 0] 77)
   rw[World.size_alloc,World.size_alloc] at this;exact this
 ·refine⟨a.heap.size+1+1,hb,D,bd,a.heap.size+1,a.heap.size,e,G,rfl,?_⟩
  refine Xe (rk:=a.heap.size+1) (tb:=a.heap.size) (ub:=a.heap.size+1+1) C.o.1 C.o.2.1 C.o.2.2.1 HF.o.2.2.1 h.o.1 h.o.2 ((((Zk _ _).alloc (Zx _) _).alloc (by simp) _).alloc (by simp;omega) _).drew (by omega) (Zx _) (by omega) ?_ (((World.rowIs_made a _ n _).alloc _).alloc _).drew ?_
  ·have:=World.rowIs_made (a.alloc (.cells (madeCells #[.int .i64 0] n) 3)) (.int .u64 0) n 27
   rw[World.size_alloc] at this;exact (this.alloc _).drew
  ·have:=heap_alloc_new ((a.alloc (.cells (madeCells #[.int .i64 0] n) 3)).alloc (.cells (madeCells #[.int .u64 0] n) 27)) (.cells #[.pointer (some ⟨hb,0,none⟩), .int .i64 dl, .slice la n lc, .int .u64 2, .slice none 0 0, .slice (some ⟨a.heap.size+1,0,none⟩) n n, .slice (some ⟨a.heap.size,0,none⟩) n n, .int .u64 0, .int .i64 0, .slice none 0 0, .slice none 0 0] 77)
   rw[World.size_alloc,World.size_alloc] at this;exact this
def oTy (t:TypeId):Bool:=hTy t||[3,130,61,48,9].contains t
theorem Wn {t:TypeId}(h:oTy t=false):hTy t=false/\¬Rl t/\t≠9:=by
 unfold oTy at h;rw[Bool.or_eq_false_iff] at h;obtain⟨a,b⟩:=h;obtain⟨a1,a2,a3,a4,a5,c,d,f,a9⟩:=JS a;refine⟨a,?_,?_⟩
 ·unfold Rl
  rintro (e | e | e | e | e | e | e | e | e | e)<;>first | contradiction | (subst e;revert b;decide)
 ·intro e;subst e;revert b;decide
theorem HH.one {rb:Nat}{t:TypeId}(h:HH w wx hb D bd rk Z e)(b:Ax wx wy rb)(r:wx.heap[rb]? =some (.cells cs t fr))(hn:XQ cs)(s:t=48\/oTy t=false)(hw:w.heap.size<=rb)(hg:4<w.heap.size):HH w wy hb D bd rk Z e:=by
 obtain⟨P,B,R,bn,ob,N,f,H,G⟩:=h.ex
 have t1:hTy t=false:=by
  rcases s with rfl | s
  ·decide
  ·exact (Wn s).1
 obtain⟨M,_,_,_,_,_,O,u8,Q⟩:=JS t1;obtain⟨a0,a1,a2,a3,a4⟩:=f.host.apart r hn u8 Q;obtain⟨g,d,q,ws⟩:=f.host.ex;obtain⟨rs,l,K,C⟩:=q.kp;obtain⟨pb,bs⟩:=q.pl;have J:=q.ne.l.gl;obtain⟨⟨f1,f2,f3,f4,f5⟩,f6,f7⟩:=f.Jr;have E:=f.Dt.size;obtain⟨U,V,dk,_⟩:=q.dk.c;obtain⟨S,f8⟩:=q.dk.fd;obtain⟨T,f9⟩:=q.dk.fn;have u:P<wx.heap.size:=by omega
 have p:=b.block P u (Ne.symm a1);have z:4<rb:=Zy hg hw
 have I:AK wy P B R D bd bn ob g d e:=by
  rcases s with rfl | s
  ·exact q.one b (Ne.symm a1) ⟨cs,fr,r⟩ z
  obtain⟨_,t2,t3⟩:=Wn s;refine⟨⟨rs,l,K.side ⟨b.size,fun o _=>World.cell?_of_block (a:=⟨P,o,none⟩) p,fun o=>World.frozen?_of_block (a:=⟨P,o,none⟩) p,fun k m L n _ e' j=>b.block k (Zaa e') (fun x=>by rw[x,r] at e';simp only[Option.some.injEq,Obj.cells.injEq] at e';exact t2 (by rw[e'.2.1];exact j)),fun k es c _ e'=>b.block k (Zaa e') (fun x=>by rw[x,r] at e';cases e')⟩,C⟩,q.log.at_ p,q.dk.Aj b.size (b.block D (Zaa dk.Au) (Ne.symm a2)) (b.block bd f8.lt (Ne.symm a3)) (b.block bn f9.lt (Ne.symm a4)) (fun k m L n e' j=>b.block k (Zaa e') (Zai e' r (fun x=>by subst x;rcases j with y | y;exact t3 y;exact M y))),fun i hi=> ?_,q.Je.at_ (b.block _ (by omega) (by omega)),q.ne⟩;exact (World.cell?_of_block (a:=⟨1,i,none⟩) (b.block 1 (by omega) (by omega))).trans (q.nm i hi)
 have v:=World.block_lt_of_cell? _ _ f.host.err;refine⟨P,B,R,bn,ob,N,⟨⟨⟨g,d,I,ws⟩,f.host.host.at_ (b.block hb (Zaa f.host.host.Au) (Ne.symm a0)),(World.cell?_of_block (a:=⟨0,0,none⟩) (b.block _ v (by show 0≠rb;omega))).trans f.host.err,f.host.ne⟩,⟨b.os.trans f.Dt.os,b.tape.trans f.Dt.tape,b.output.trans f.Dt.output,Zv E b.size,fun k j=>(b.block k (by omega) (by omega)).trans (f.Dt.block k j)⟩,f.Jr⟩,H,fun k j=> ?_⟩;obtain⟨m,n,e',A⟩:=(G k j).Au;exact⟨⟨m,n,(b.block k (Zaa e') (Zai e' r (Ne.symm O))).trans e',A⟩,(G k j).Jr⟩
structure XC (w:World)(ub hb bb:Nat):Prop where
 ub:∃cs,w.heap[ub]? =some (.cells cs 77 (0,0))/\cs[0]? =some (.pointer (some ⟨hb,0,none⟩))/\cs[3]? =some (.int .u64 2)
 bb:∃x,w.heap[bb]? =some (.cells #[.int .u64 x] 71 (0,0))/\0<=x
theorem XC.cells (h:XC w ub hb bb):w.cell? ⟨ub,0,none⟩=some (.pointer (some ⟨hb,0,none⟩))/\w.cell? ⟨ub,3,none⟩=some (.int .u64 2):=by
 obtain⟨cs,a,b,c⟩:=h.ub;exact⟨Zd4 a b,Zd4 a c⟩
theorem XC.Aj {w':World}(h:XC w ub hb bb)(d:Sl w w' rk):XC w' ub hb bb:=by
 obtain⟨cs,a,b,f⟩:=h.ub;obtain⟨x,c,i⟩:=h.bb;exact⟨⟨cs,(d.block ub _ _ _ a (fun t v y=>by rw[b] at y;cases y) (by decide)).trans a,b,f⟩,⟨x,(d.block bb _ _ _ c (fun t v y=>by cases y) (by decide)).trans c,i⟩⟩
theorem XC.below {w':World}(h:XC w ub hb bb)(a:Below w.heap.size w w'):XC w' ub hb bb:=by
 obtain⟨cs,b,d,f⟩:=h.ub;obtain⟨x,c,i⟩:=h.bb;exact⟨⟨cs,(a.block ub (Zaa b)).trans b,d,f⟩,⟨x,(a.block bb (Zaa c)).trans c,i⟩⟩
theorem QZ {a b c d:Int}:XQ #[.int .u64 a, .int .i64 b, .int .i64 c, .int .u64 d]:=fun t v x=>by cases x
structure Dp (w wr:World)(hb D bd:Nat)(rk:Option Nat)(ub bb Z:Nat)(F:Ad)(g t:Nat)(pl:Bool)(e:Ab):Prop where
 hh:HH w wr hb D bd rk Z e
 b:XC wr ub hb bb
 l:Lo e F g t pl
theorem Dp.below (h:Dp w wr hb D bd rk ub bb Z F g t pl e)(a:Below wr.heap.size wr wx):Dp w wx hb D bd rk ub bb Z F g t pl e:=⟨(h.hh.below a).1,h.b.below a,h.l⟩
theorem Dp.mono {a:Nat}(h:Dp w wr hb D bd rk ub bb Z F g t pl e)(c:Z<=a):Dp w wr hb D bd rk ub bb a F g t pl e:=⟨h.hh.mono c,h.b,h.l⟩
theorem Dp.AQ (h:Dp w wr hb D bd rk ub bb Z F g t pl e):AD e:=by
 obtain⟨b,c,a⟩:=h.l.AQ;exact CW (by omega) (by omega) a
theorem Dp.box {tb:Nat}(h:Dp w wr hb D bd rk ub bb Z F g t pl e)(f:Ax wr wx tb)(i:wr.heap[tb]? =some (.cells cs 48 fr))(hn:XQ cs)(hw:w.heap.size<=tb)(hg:4<w.heap.size):Dp w wx hb D bd rk ub bb Z F g t pl e:=by
 obtain⟨x,c,j⟩:=h.b.bb;obtain⟨a,d,k,m⟩:=h.b.ub;exact⟨h.hh.one f i hn (Zu rfl) hw hg,⟨⟨a,(f.block ub (Zaa d) (Zai d i (by decide))).trans d,k,m⟩,⟨x,(f.block bb (Zaa c) (Zai c i (by decide))).trans c,j⟩⟩,h.l⟩
theorem Dp.put {tb:Nat}{i j k l:Int}(h:Dp w wr hb D bd rk ub bb Z F g t pl e)(d:wr.heap[tb]? =some (.cells #[.int .u64 i, .int .i64 j, .int .i64 k, .int .u64 l] 48 (0,0)))(hw:w.heap.size<=tb)(hg:4<w.heap.size)(a b c f:Int) :
  Dg ((((wr.setCell ⟨tb,0,none⟩ (.int .u64 a)).setCell ⟨tb,1,none⟩ (.int .i64 b)).setCell ⟨tb,2,none⟩ (.int .i64 c)).setCell ⟨tb,3,none⟩ (.int .u64 f)) tb a b c f/\Dp w ((((wr.setCell ⟨tb,0,none⟩ (.int .u64 a)).setCell ⟨tb,1,none⟩ (.int .i64 b)).setCell ⟨tb,2,none⟩ (.int .i64 c)).setCell ⟨tb,3,none⟩ (.int .u64 f)) hb D bd rk ub bb Z F g t pl e :=
 ⟨⟨by rw[Zab (Zab (Zab (Zab d _) _) _) _];rfl⟩,h.box (Ax.Iq wr tb _ _ _ _) d QZ hw hg⟩
theorem Dp.new (h:Dp w wr hb D bd rk ub bb Z F g t pl e)(a b c f:Int) :
  Dg (wr.alloc (.cells #[.int .u64 a, .int .i64 b, .int .i64 c, .int .u64 f] 48)) wr.heap.size a b c f/\Dp w (wr.alloc (.cells #[.int .u64 a, .int .i64 b, .int .i64 c, .int .u64 f] 48)) hb D bd rk ub bb Z F g t pl e :=
 ⟨⟨heap_alloc_new _ _⟩,h.below ((Zk _ _).alloc (Zx _) _)⟩
theorem Yt (h:Dp w wx hb D bd rk ub bb Z F g t pl e)(o:Z<=1000000000000)(n:t % g=0)(A:t<=2000) :
  Calls prog 61 #[.pointer (some ⟨hb,0,none⟩), .agg #[.int .i64 (-1), .int .i64 (-1), .int .i64 0, .int .i64 0]] wx fun x w'=>∃a b c f y e',x= .returned (.tuple #[.agg #[.int .u64 a, .int .i64 b, .int .i64 c, .int .u64 f], .bool y, .int .i64 0])/\Dp w w' hb D bd rk ub bb (Z+1000000) F g t pl e'/\((y=false/\e'.queue=[]/\left (e'.at_ 1)=left (e.at_ 1))\/(y=true/\left (e'.at_ 1)+1=left (e.at_ 1)/\0<=f/\f<1000/\∃k,e'.task f=some (1,k)))/\Sl wx w' rk:=by
 refine (YG h.hh h.l.i.ok h.AQ o).mono ?_;rintro x w' ⟨a,b,c,f,y,e',rfl,q1,m,d⟩;rcases q1 with⟨p1,rfl,rfl,rfl,rfl,rfl,rfl⟩ | ⟨p,G,H,p1,rfl,rfl,rfl,rfl,rfl⟩
 ·refine⟨_,_,_,_,_,e',rfl,⟨m,h.b.Aj d,h.l⟩,Zu ⟨rfl,?_,rfl⟩,d⟩
  unfold Ab.Bk at p1
  split at p1
  ·assumption
  ·rename_i j q r
   obtain⟨i,r1,r2,B,C⟩:=(h.l.i.ok.wk.qm j).1 (by rw[r];exact List.mem_cons_self ..);rw[show e'.find j.run=some i by rw[<-r2];exact h.l.i.ok.wk.Rz r1] at p1
   cases p1
 ·obtain⟨s1,s2,s3,s,u,E,v⟩:=h.l.i.Bk (g:=g) (by omega) p1
  have hl:=h.l.AQ;have z:=h.l.i.ok.wk.YO;exact⟨_,_,_,_,_,e',rfl,⟨m,h.b.Aj d,h.l.call n s1 s2 (fun x=>by rw[<-s3];exact x) u⟩,Zj ⟨rfl,s,by omega,by omega,_,v⟩,d⟩
theorem Yq {k:Nat}{f:Int}(h:Dp w wx hb D bd rk ub bb Z F g t pl e)(d:Z<=1000000000000)(c:t % g=0)(r:t<=2000)(hf:0<=f/\f<1000)(j:e.task f=some (1,k)) :
  Calls prog 26 #[.pointer (some ⟨hb,0,none⟩), .int .i64 5, .int .u64 f, .agg #[.int .i64 (-1), .int .i64 (-1), .int .i64 0, .int .i64 0]] wx fun x w'=>x= .returned (.int .i64 0)/\∃e',Dp w w' hb D bd rk ub bb (Z+1000000) F g t pl e'/\left (e'.at_ 1)=left (e.at_ 1):=by
 have a:e.fail f=some (e.AT 1 k):=by unfold Ab.fail;rw[j]
 have:=YD (n:=f.toNat) h.hh h.l.i.ok h.AQ d (by omega);rw[Int.toNat_of_nonneg hf.1,a] at this;refine this.mono ?_;rintro x w' ⟨rfl,m,o⟩;obtain⟨s1,s2,s3,p,q⟩:=h.l.i.fail (g:=g) (by omega) (by omega) a;exact⟨rfl,_,⟨m,h.b.Aj o,h.l.call c s1 s2 s3 q⟩,p⟩
theorem Ob {k:Nat}{f:Int}(h:Dp w wx hb D bd rk ub bb Z F g t pl e)(d:Z<=1000000000000)(c:t % g=0)(r:t<=2000)(hf:0<=f/\f<1000)(j:e.task f=some (1,k)) :
  Calls prog 26 #[.pointer (some ⟨hb,0,none⟩), .int .i64 4, .int .u64 f, .agg #[.int .i64 (-1), .int .i64 (-1), .int .i64 0, .int .i64 0]] wx fun x w'=>x= .returned (.int .i64 0)/\∃e',Dp w w' hb D bd rk ub bb (Z+1000000) F g t pl e'/\left (e'.at_ 1)=left (e.at_ 1):=by
 have a:e.complete f=some (((e.Af 1 k (fun s=>{ s with st:=5 })).Bl 1).settle 1):=by unfold Ab.complete;rw[j]
 have:=OA (n:=f.toNat) h.hh h.l.i.ok h.AQ d (by omega);rw[Int.toNat_of_nonneg hf.1,a] at this;refine this.mono ?_;rintro x w' ⟨rfl,m,o⟩;obtain⟨s1,s2,s3,p,q⟩:=h.l.i.complete (g:=g) (by omega) (by omega) a;exact⟨rfl,_,⟨m,h.b.Aj o,h.l.call c s1 s2 s3 q⟩,p⟩
theorem Dp.bit (h:Dp w wr hb D bd rk ub bb Z F g t pl e)(hw:w.heap.size<=bb)(hg:4<w.heap.size){y:Int}(j:0<=y):Dp w (wr.setCell ⟨bb,0,none⟩ (.int .u64 y)) hb D bd rk ub bb Z F g t pl e:=by
 obtain⟨x,a,k⟩:=h.b.bb;obtain⟨cs,c,f,i⟩:=h.b.ub;have d:Ax wr (wr.setCell ⟨bb,0,none⟩ (.int .u64 y)) bb:=(Ax.refl wr bb).set 0 _;refine⟨h.hh.one d a (fun t v z=>by cases z) (Zj (by decide)) hw hg,⟨⟨cs,(d.block ub (Zaa c) (Zai c a (by decide))).trans c,f,i⟩,⟨y,by rw[Zab a];rfl,j⟩⟩,h.l⟩
theorem Sy (w wx:World)(hb D bd ub bb Z g t:Nat)(rk:Option Nat)(F:Ad)(pl:Bool)(e:Ab)(m:Int)(h:Dp w wx hb D bd rk ub bb Z F g t pl e)(hZ:Z<=900000000000)(h0:t % g=0)(ht:t<=2000)(hl:left (e.at_ 1)<=60)(hw:w.heap.size<=bb)(hg:4<w.heap.size)(hv: -9223372036854775808<=m/\m<=9223372036854775807) :
  Calls prog 24 #[.pointer (some ⟨ub,0,none⟩), .int .i64 m, .pointer (some ⟨bb,0,none⟩)] wx fun x w'=>x= .returned (.bool true)/\∃e',Dp w w' hb D bd rk ub bb (Z+122000000) F g t pl e'/\e'.queue=[]/\left (e'.at_ 1)<=60:=by
 have HW:=Zz (fun wx=>Fx wx);unfold Zbl at HW;have HS:=Zz (Zq h hl);have A:=Zz (Zq hZ (Zq h0 (Zq ht (Zq hw hg))));obtain⟨pk,W,az,b9⟩:∃pk:Int,CE m 1099511627776=pk/\0<=pk/\pk<1099511627776:=⟨_,rfl,Zen m _ (by omega),by have:=Zeo m 1099511627776 (by omega);omega⟩;have Q:=Zz (fun (wx:World)=>Zdb m 1099511627776 wx hv.1 hv.2 (by omega) (by omega));rw[W] at Q;clear h hZ h0 ht hl hw hg hv W
 go_enter func24,ntmps24
 go_wp2_with fail
 go_loopg [] (left (e.at_ 1)).toNat (fun gk wr=>∃(s:Ab) (G:Nat),Dp w wr hb D bd rk ub bb G F g t pl s/\(G:Int)+2000000 * left (s.at_ 1)<=(Z:Int)+120000000/\left (s.at_ 1)<=60/\gk=(left (s.at_ 1)).toNat)
 case atStart=>exact⟨e,Z,HS.o.1,by have:=HS.o.2;omega,HS.o.2,rfl⟩
 case round =>
  obtain⟨s,G,R,hz,hl,rfl⟩:=hrel;have V:=R.l.i.lt;have P:=Zz (Zq R (Zq hz (Zq hl V)));have c0:=R.b.cells.1;have al:=Zz (show ∀wx,Below wr.heap.size wr wx->Calls prog 61 #[.pointer (some ⟨hb,0,none⟩), .agg #[.int .i64 (-1), .int .i64 (-1), .int .i64 0, .int .i64 0]] wx fun x w'=>∃a b c f y e',x= .returned (.tuple #[.agg #[.int .u64 a, .int .i64 b, .int .i64 c, .int .u64 f], .bool y, .int .i64 0])/\Dp w w' hb D bd rk ub bb (G+1000000) F g t pl e'/\((y=false/\e'.queue=[]/\left (e'.at_ 1)=left (s.at_ 1))\/(y=true/\left (e'.at_ 1)+1=left (s.at_ 1)/\0<=f/\f<1000/\∃k,e'.task f=some (1,k)))/\Sl wx w' rk from fun wx p=>Yt (R.below p) (by have:=A.o.1;omega) A.o.2.1 A.o.2.2.1);clear R hz hl V;go_wp2_with fail
  go_cut [7,8,9] from 11 to 20 (fun tv yv ev wc=>∃tb a b c f y e',tv= .pointer (some ⟨tb,0,none⟩)/\yv= .bool y/\ev= .int .i64 0/\Dg wc tb a b c f/\Dp w wc hb D bd rk ub bb (G+1000000) F g t pl e'/\((y=false/\e'.queue=[]/\left (e'.at_ 1)=left (s.at_ 1))\/(y=true/\left (e'.at_ 1)+1=left (s.at_ 1)/\0<=f/\f<1000/\∃k,e'.task f=some (1,k))))
  case first =>
   have au:=fun o=>cell_later ((Zk _ _).alloc (Zx _) o) c0
   go_region_with (first
    | (go_at_call 13;refine (HW.o _).mono ?_;rintro _ w4 ⟨rfl,d⟩;have ar:w4.cell? ⟨ub,0,none⟩=some (.pointer (some ⟨hb,0,none⟩)):=(by first | exact cell_later d c0 | exact cell_later d (au _));have ax:=fun o=>cell_later ((Zk _ _).alloc (Zx _) o) ar;have B:=Zz d;clear d)
    | (go_at_call 61;refine (al.o _ (by first | exact ((Zk _ wr).drew).trans (B.o.mono (Zx _)) | exact (((Zk _ wr).alloc (Zx _) _).drew).trans (B.o.mono (by simp)) | exact (((Zk _ wr).drew).trans (B.o.mono (Zx _))).alloc B.o.size _)).mono ?_;rintro _ w5 ⟨a,b,c,f,y,e',rfl,q1,H,N⟩;have u:=Zz (Zq q1 H);first
     | (have j:=(N.block wr.heap.size _ _ _ ((B.o.block wr.heap.size (by simp)).trans (heap_alloc_new wr _)) QZ (by decide)).trans ((B.o.block wr.heap.size (by simp)).trans (heap_alloc_new wr _));have k0:=Zad j 0;have k1:=Zad j 1;have k2:=Zad j 2;have k3:=Zad j 3;have g0:=Za9 j 0;have g1:=Za9 j 1;have g2:=Za9 j 2;have g3:=Za9 j 3;have C:=Zz j;clear j q1 H N)
     | (have j:=(N.block w4.heap.size _ _ _ (heap_alloc_new w4 _) QZ (by decide)).trans (heap_alloc_new w4 _);have k0:=Zad j 0;have k1:=Zad j 1;have k2:=Zad j 2;have k3:=Zad j 3;have g0:=Za9 j 0;have g1:=Za9 j 1;have g2:=Za9 j 2;have g3:=Za9 j 3;have C:=Zz j;clear j q1 H N)
     | (have C:=Zz N;clear q1 H N)))
   all_goals go_wp2_with fail
   all_goals go_meet
   all_goals first
    | (obtain⟨r1,r2⟩:=u.o.1.put C.o (by have h1:=P.o.1.hh.Dt.size;have h2:=B.o.size;simp at h2;omega) A.o.2.2.2.2 a b c f;exact⟨_,a,b,c,f,y,e',rfl,rfl,rfl,r1,r2,u.o.2⟩)
    | (obtain⟨r1,r2⟩:=u.o.1.new a b c f;exact⟨_,a,b,c,f,y,e',rfl,rfl,rfl,r1,r2,u.o.2⟩)
  case rest =>
   obtain⟨tb,a,b,c,f,y,e',rfl,rfl,rfl,X,S,ae⟩:=hcut
   rename World=>wc
   have HC:=Zz (Zq X S);clear c0 X S;rcases ae with⟨rfl,hq,M⟩ | ⟨rfl,M,T,U,k,j⟩
   ·go_wp2_with fail
    go_ret
    obtain⟨z1,z2,z3,z4⟩:=P.o;exact⟨rfl,e',HC.o.2.mono (by omega),hq,by omega⟩
   ·have C:=Zz (Zq M (Zq T (Zq U j)))
    obtain⟨bx,p,ay⟩:=HC.o.2.b.bb;have d0:=Zaj p 0;have O:=Zz p;clear p M T U j;go_wp2_with fail
    go_cut [10] from 25 to 32 (fun v wx=>∃q:Int,v= .int .i64 q/\Below wc.heap.size wc wx)
    case first =>
     go_quiet ((go_at_call 22;refine Calls.quiet_of_same (Q.o _)))
     go_wp2_with fail
     go_meet
     exact⟨_,rfl,below_drewN _ _⟩
    case rest =>
     obtain⟨q,rfl,J⟩:=hcut
     rename World=>wd
     have r:=Zz (Zq (HC.o.2.below J) (Zq (HC.o.1.CV J) ((J.block bb (Zaa O.o)).trans O.o)));have d0:=Zaj r.o.2.2 0;have f0:=Za9 r.o.2.2 0;clear J d0;have d0:=Zaj r.o.2.2 0;obtain⟨I,K⟩:∃I,I=wd.setCell ⟨bb,0,none⟩ (.int .u64 (IntKind.u64.wrap (bx+2))):=⟨_,rfl⟩;have E:Dp w I hb D bd rk ub bb (G+1000000) F g t pl e':=by rw[K];exact r.o.1.bit A.o.2.2.2.1 A.o.2.2.2.2 (by rw[IntKind.wrap_u64];omega)
     have Y:Dg I tb a b c f:=⟨by rw[K,Zl wd ⟨bb,0,none⟩ _ tb (Zai r.o.2.1.Au r.o.2.2 (by decide))];exact r.o.2.1.Au⟩;have cz:=E.b.cells.1;have kz:=Y.cells.2;have aj:=Zz (fun (wx:World) (p:Below I.heap.size I wx)=>Yq (k:=k) (E.below p) (by have:=A.o.1;have:=P.o.2;omega) A.o.2.1 A.o.2.2.1 ⟨C.o.2.1,C.o.2.2.1⟩ C.o.2.2.2);have ag:=Zz (fun (wx:World) (p:Below I.heap.size I wx)=>Ob (k:=k) (E.below p) (by have:=A.o.1;have:=P.o.2;omega) A.o.2.1 A.o.2.2.1 ⟨C.o.2.1,C.o.2.2.1⟩ C.o.2.2.2);have HZ:=Zz E;have L:=Zz K;clear E Y K
     have n:=Zz (show ∀(wx:World) (z:Ab),Dp w wx hb D bd rk ub bb (G+1000000+1000000) F g t pl z->left (z.at_ 1)=left (e'.at_ 1)->(∃s G,Dp w wx hb D bd rk ub bb G F g t pl s/\(G:Int)+2000000 * left (s.at_ 1)<=(Z:Int)+120000000/\left (s.at_ 1)<=60/\(left (z.at_ 1)).toNat=(left (s.at_ 1)).toNat)/\(left (z.at_ 1)).toNat<(left (s.at_ 1)).toNat from fun wx z h1 h2=>by
      obtain⟨z1,z2,z3,z4⟩:=P.o;have k1:=C.o.1;have:=h1.l.i.lt;exact⟨⟨z,_,h1,by omega,by omega,rfl⟩,by omega⟩)
     by_cases g0:q=0
     ·subst g0
      go_wp2_with fail
      rw[<-L.o]
      go_region_with (first
       | (go_at_call 13;refine (HW.o _).mono ?_;rintro _ w4 ⟨rfl,d⟩;have av:=cell_later d cz;have aw:=cell_later d kz;have B:=Zz d;clear d)
       | (go_at_call 26;refine (aj.o _ (((Zk _ I).drew).trans (B.o.mono (Zx _)))).mono ?_;rintro _ w5 ⟨rfl,z,q1,H⟩;have u:=Zz (Zq q1 H);clear q1 H))
      all_goals
       go_wp2_with fail
       go_roundg ((left (z.at_ 1)).toNat)
       ·exact (n.o _ z u.o.1 u.o.2).1
       ·exact (n.o _ z u.o.1 u.o.2).2
     ·by_cases g1:q=1
      ·subst g1
       go_wp2_with fail
       rw[<-L.o]
       go_region_with (first
        | (go_at_call 13;refine (HW.o _).mono ?_;rintro _ w4 ⟨rfl,d⟩;have av:=cell_later d cz;have aw:=cell_later d kz;have B:=Zz d;clear d)
        | (go_at_call 26;refine (ag.o _ (((Zk _ I).drew).trans (B.o.mono (Zx _)))).mono ?_;rintro _ w5 ⟨rfl,z,q1,H⟩;have u:=Zz (Zq q1 H);clear q1 H))
       all_goals
        go_wp2_with fail
        go_roundg ((left (z.at_ 1)).toNat)
        ·exact (n.o _ z u.o.1 u.o.2).1
        ·exact (n.o _ z u.o.1 u.o.2).2
      ·have j0:decide (q=0)=false:=decide_eq_false g0
       have j1:decide (q=1)=false:=decide_eq_false g1;go_wp2_with fail
       rw[<-L.o]
       go_roundg ((left (e'.at_ 1)).toNat)
       ·exact (n.o _ e' (HZ.o.mono (by omega)) rfl).1
       ·exact (n.o _ e' (HZ.o.mono (by omega)) rfl).2
end Go.Proofs.YtgdcjccbdmcebaaGreatDoor
open Go.Proofs.Tryz
namespace Go.Proofs.YtgdcjccbdmcebaaGreatDoor
open Go.RowKit
variable {rk:Option Nat}{pl:Bool}{F:Ad}{e:Ab}{wx w:World}{hb bd g t ub bb D Z:Nat}
theorem RZ {F:Ad}{g:Int}(hg:1<=g):∀n,(∀i,i<n->Lp F i)->(n:Int)<=CN F g n
 | 0,_=>Int.le_refl _
 | n+1,h=>by
  have k:=RZ hg n fun i hi=>h i (by omega)
  obtain⟨a,b,c,d,f,j,_⟩:=h n (by omega);have:1 * 1<=F.bu n * (F.cl n+F.ca n+F.ji n+g):=Int.mul_le_mul a.1 (by omega) (by decide) (by omega);simp only[CN]
  push_cast
  omega
theorem Sa {F G:Ad}{g:Int}:∀n k,Ce F G k->n<=k->CN F g n=CN G g n
 | 0,_,_,_=>rfl
 | n+1,k,h,hk=>by
  simp only[CN];rw[Sa n k h (by omega),h.bu n (by omega),h.cl n (by omega),h.ca n (by omega),h.ji n (by omega)]
theorem De.ord (h:De F F.n):OrdF F:=fun k c a b=>by
 have:=(h.nodes k c).af a b;omega
theorem Lo.left60 (h:Lo e F g t pl)(d:3<=e.Ai):left (e.at_ 1)<=60:=by
 have a:=h.i.ok.wk.runs 1 h.i.i1;have b:=h.i.tok;have c:=Rp (F:=F) (by rw[<-h.fl];exact a.fl);omega
structure DlS (w wr:World)(hb D bd:Nat)(rk:Option Nat)(ub bb Z:Nat)(F:Ad)(g t:Nat)(pl:Bool)(e:Ab):Prop where
 hl:HL w wr hb D bd rk Z e
 b:XC wr ub hb bb
 l:Lo e F g t pl
 Bz:∀k,rk=some k->∀cs fr,wr.heap[k]? =some (.cells cs 27 fr)->XQ cs
theorem HL.below {f:World}(h:HL w wx hb D bd rk Z e)(a:Below wx.heap.size wx f):HL w f hb D bd rk Z e:=by
 obtain⟨R,bn,N,c,b,j,d,l,m,n⟩:=h.ex;refine⟨R,bn,N,c,⟨b.host.at_ (a.block hb (Zaa b.host.Au)),b.dk.below a,cell_later a b.nil,b.log,b.sz,b.m2,b.err.Aj a,fun i hi=>cell_later a (b.nm i hi),?_,b.gl,b.ne⟩,j,d.trans (a.mono d.size),l,m,fun k o=> ?_⟩
 ·exact fun i hi=>cell_later a (b.Je i hi)
 ·obtain⟨cs,fr,e⟩:=n k o
  exact⟨cs,fr,(a.block k (Zaa e)).trans e⟩
theorem DlS.below {wr:World}(h:DlS w wr hb D bd rk ub bb Z F g t pl e)(a:Below wr.heap.size wr wx):DlS w wx hb D bd rk ub bb Z F g t pl e:=by
 refine⟨h.hl.below a,h.b.below a,h.l,fun k f cs fr e=> ?_⟩;obtain⟨R,bn,N,i,_,_,_,_,_,j⟩:=h.hl.ex;obtain⟨c,d,e'⟩:=j k f;have:=(a.block k (Zaa e')).trans e';rw[this] at e;obtain⟨rfl,rfl⟩:c=cs/\d=fr:=by simpa using e
 exact h.Bz k f _ _ e'
theorem Yr (h:Dp w wx hb D bd rk ub bb Z F g t pl e)(kept:Int) :
  Calls prog 25 #[.pointer (some ⟨hb,0,none⟩), .int .i64 kept, .int .i64 0] wx fun x w'=>x= .returned (.tuple #[])/\DlS w w' hb D bd rk ub bb Z F g t pl e:=by
 refine (YE h.hh kept 0 (by omega)).mono ?_;rintro x w' ⟨rfl,q1,i⟩;refine⟨rfl,q1,h.b.Aj i,h.l,fun k f cs fr d=> ?_⟩;obtain⟨P,B,R,bn,ob,N,m,n,j⟩:=h.hh.ex;obtain⟨a,c,e',hn⟩:=(j k f).Au;have:=(i.row k f).trans e';rw[this] at d;obtain⟨rfl,rfl⟩:a=cs/\c=fr:=by simpa using d
 exact hn
theorem Lo.engLim (h:Lo e F g t pl):AD e:=by
 obtain⟨b,c,a⟩:=h.AQ;exact CW (by omega) (by omega) a
theorem Ys (h:DlS w wx hb D bd rk ub bb Z F g t pl e)(a:Z<=1000000000000) :
  Calls prog 12 #[.pointer (some ⟨hb,0,none⟩), .agg #[.int .i64 (-1), .int .i64 (-1), .int .i64 0, .int .i64 0]] wx fun x w'=>x= .returned (.int .i64 0)/\Dp w w' hb D bd rk ub bb Z F g t pl e:=by
 refine (YF h.hl (by rw[h.l.i.lr];decide) h.l.engLim a h.Bz).mono ?_;rintro x w' ⟨rfl,q1,c⟩;exact⟨rfl,q1,h.b.Aj c,h.l⟩
theorem Yu (h:Dp w wx hb D bd rk ub bb Z F g t pl e)(j:Z<=1000000000000)(a:1<=g)(c:g<=9)(m:t<=2000)(k:pl=true->t % g=0->e.queue=[])(hl:left (e.at_ 1)<=60) :
  Calls prog 26 #[.pointer (some ⟨hb,0,none⟩), .int .i64 7, .int .u64 1, .agg #[.int .i64 (-1), .int .i64 (-1), .int .i64 0, .int .i64 0]] wx fun x w'=>x= .returned (.int .i64 0)/\∃e',Dp w w' hb D bd rk ub bb (Z+1000000) F g (t+1) pl e'/\left (e'.at_ 1)<=60:=by
 refine (YH (n:=1) h.hh h.l.i.ok h.AQ j (by omega)).mono ?_;rintro x w' ⟨rfl,f,q1,o,p⟩;have:=(h.l.i.tick (g:=0) (d:=0) q1 (by omega) (by omega) (by omega)).2.2.2.1;exact⟨rfl,f,⟨o,h.b.Aj p,h.l.tick a c m k q1⟩,by omega⟩
theorem US (h:Dp w wx hb D bd rk ub bb Z F g t pl e) :
  Calls prog 27 #[.pointer (some ⟨hb,0,none⟩), .int .u64 2] wx fun x w'=>∃a1 n1 c1 a2 n2 c2,x= .returned (.tuple #[.agg #[.int .u64 2, .int .i64 (e.at_ 1).st, .slice a1 n1 c1, .slice a2 n2 c2], .int .i64 0])/\Below wx.heap.size wx w':=by
 refine (Vm h.hh 2).mono ?_;rintro x w' ⟨v,c,rfl,q1,b⟩;have hf:e.find 2=some 1:=by rw[<-h.l.i.id];exact h.l.i.ok.wk.Rz h.l.i.i1
 rcases q1 with⟨a,_⟩ | ⟨i,a1,a2,c1,c2,a,rfl,rfl,_⟩
 ·rw[hf] at a;cases a
 ·rw[hf] at a
  obtain rfl:=Option.some.inj a;exact⟨_,_,_,_,_,_,rfl,b⟩
open Go.RowKit
attribute [local go_sem ↓] Go.wp_at_zero Go.wp_at_succ
theorem UU (w:World)(c0 d0 R wh lo:Int)(pl:Bool)(ab an:Option Addr)(nb cb nn cn:Nat)(fb fn:Nat->Int)(au: -9223372036854775808<=c0/\c0<=9223372036854775807)(av: -9223372036854775808<=d0/\d0<=9223372036854775807)(ay: -9223372036854775808<=R/\R<=9223372036854775807)(dh: -9223372036854775808<=wh/\wh<=9223372036854775807)(az: -9223372036854775808<=lo/\lo<=9223372036854775807)(hb:Dq w ab nb cb fb)(hn:Dq w an nn cn fn)(he:Az w)(cy:Za4 w)(ht:AL w)(hg:4<w.heap.size)(cu:2<w.heap.size)(cq:0<w.heap.size) :
  Calls prog 9 #[.int .i64 c0, .slice ab nb cb, .slice an nn cn, .int .i64 d0, .int .i64 R, .int .i64 wh, .bool pl, .int .i64 lo] w fun x w'=>x= .returned (.bool true)/\Below w.heap.size w w':=by
 have X:=Zz (Tk w c0 d0 ab an nb cb nn cn fb fn au.1 au.2 av.1 av.2 hb hn);unfold Ex at X;have z:=Zz (Zq he (Zq cy (Zq ht (Zq hg (Zq cu cq)))));have HW:=Zz (fun wx=>Fx wx);unfold Zbl at HW;obtain⟨m,hm,ez⟩:∃m:Nat,CE R 9=(m:Int)/\m<=8:=⟨(CE R 9).toNat,by have:=Zen R 9 (by omega);omega,by have:=Zeo R 9 (by omega);omega⟩;have bj:=Zz (fun (wx:World)=>Zdb R 9 wx ay.1 ay.2 (by omega) (by omega));rw[hm] at bj;obtain⟨pk,db⟩:∃pk:Int,CE lo 128=pk:=⟨_,rfl⟩;have bo:=Zz (fun (wx:World)=>Zdb lo 128 wx az.1 az.2 (by omega) (by omega));rw[db] at bo;have ee:=Zz dh;clear au av ay dh az hb hn he cy ht hg cu cq hm db
 go_enter func9,ntmps9
 go_upto_region 2 with (go_at_call 18;refine X.o.mono ?_;rintro _ w1 ⟨⟨F,la,lc,Na,Nc,rfl,q1,r,H,U⟩,ag⟩;have H1:=Zz (Zq q1 (Zq r (Zq H (Zq U ag))));clear q1 r H U ag)
 obtain⟨dl,aw,fe,cm⟩:∃dl:Nat,F.dl=(dl:Int)/\1<=dl/\dl<=2000:=⟨F.dl.toNat,by have:=H1.o.2.1.dl;omega,by have:=H1.o.2.1.dl;omega,by have:=H1.o.2.1.dl;omega⟩;rw[aw];have J:=Zz aw;clear aw;obtain⟨fb,ax⟩:∃fb,fb=w1.heap.size:=⟨_,rfl⟩;obtain⟨s,O⟩:∃s,s=w1.alloc (.cells #[.int .i64 dl, .slice la F.n lc] 61):=⟨_,rfl⟩;rw[<-ax,<-O];have q:Below w1.heap.size w1 s:=by rw[O];exact (Zk _ _).alloc (Zx _) _
 have d:Below w.heap.size w s:=H1.o.2.2.2.2.trans (q.mono H1.o.2.2.2.2.size);have N:s.heap[fb]? =some (.cells #[.int .i64 dl, .slice la F.n lc] 61 (0,0)):=by rw[O,ax];exact heap_alloc_new w1 _
 have f0:=Zaj N 0;have f1:=Zaj N 1;have L:=Zz (Qp s w.heap.size F la lc Na Nc (H1.o.1.below q) H1.o.2.1 H1.o.2.2.1 H1.o.2.2.2.1 (z.o.1.Aj d) (fun i hi=>cell_later d (z.o.2.1 i hi)) (z.o.2.2.1.Aj z.o.2.2.2.2.1 d) (Zy z.o.2.2.2.1 d.size) (Zy z.o.2.2.2.2.1 d.size) (Zy z.o.2.2.2.2.2 d.size));unfold Ex at L;rw[J.o] at L;have k:=Zz (Zq q (Zq d N));clear X q d N ax O
 go_upto_region 3 with (go_at_call 19;refine L.o.mono ?_;rintro _ V ⟨ub,hb,D,bd,rk,tb,e,G,rfl,q1,r,H,U⟩;have H3:=Zz (Zq q1 (Zq r (Zq H U)));clear q1 r H U)
 have bw:=cell_later H3.o.1.Dt f0;have f13:=cell_later H3.o.1.Dt f1;clear f0 f1 L
 go_upto_region 6 with (go_at_call 22;refine (bj.o _).mono ?_;rintro _ w4 ⟨rfl,M⟩;have M:=M.symm;subst M)
 obtain⟨g,ct⟩:∃g:Nat,(1+(m:Int))=g:=⟨1+m,by omega⟩;rw[ct];have A:1<=g/\g<=9:=by omega
 have j:=Zz (Zq A.1 A.2);clear ct A ez
 go_upto_if 43 with fail
 go_cut [20] from 44 to 54 (fun lv wc=>∃AQ:Nat,lv= .int .i64 AQ/\((AQ:Int)=dl\/(pl=true/\(AQ:Int)=CN F g F.n))/\AQ<=2000/\Below V.heap.size V wc)
 case first =>
  cases pl with
  | false =>
   go_wp2_with fail
   go_meet
   exact⟨dl,rfl,Zu rfl,cm,Zk _ _⟩
  | true =>
   have dj:=Zz (show Calls prog 23 #[.agg #[.int .i64 dl, .slice la F.n lc], .int .i64 g] V fun x w'=>∃AQ:Nat,x= .returned (.int .i64 AQ)/\((AQ:Int)=dl\/(AQ:Int)=CN F g F.n)/\1<=AQ/\AQ<=dl/\Below V.heap.size V w' from by
    obtain⟨eu,hw,h1,h2,ag⟩:=H1.o;have ey:=(((eu.below k.o.1).Vf (by omega) (fun i hi=>by have:=hw.an h1 h2 i hi;omega) (z.o.2.2.1.Aj z.o.2.2.2.2.1 k.o.2.1) (Zy z.o.2.2.2.2.1 k.o.2.1.size)).Aj H3.o.1.Dt);have:=QI F g la lc Na Nc V (by omega) (by have:=j.o.2;omega) ey;unfold Ex at this;rw[J.o] at this;refine this.mono ?_;rintro x w4 ⟨⟨y,rfl,hy⟩,eo⟩;rcases hy with⟨_,rfl⟩ | ⟨e1,a1,h3,M,_⟩
    ·have ep:Zcy g=g:=by unfold Zcy;have:=j.o.2;omega
     rw[ep,J.o];have hs:=RZ (F:=F) (g:=g) (by have:=j.o.1;omega) F.n hw.nodes;refine⟨(min (dl:Int) (CN F g F.n)).toNat,?_,by omega,by omega,by omega,eo⟩;rw[Int.toNat_of_nonneg (by omega)]
    ·exact absurd ((hw.chk h1 h2).one M).1.symm h3)
   go_upto_region 9 with (go_at_call 23;refine dj.o.mono ?_;rintro _ w4 ⟨AQ,rfl,q1,r,H,U⟩;have H4:=Zz (Zq q1 (Zq r (Zq H U)));clear q1 r H U)
   have fi:=cell_later H4.o.2.2.2 bw;have i1:¬(AQ:Int)<1:=by have:=H4.o.2.1;omega
   have i2:¬(dl:Int)<(AQ:Int):=by have:=H4.o.2.2.1;omega
   go_wp2_with fail
   go_meet
   exact⟨AQ,rfl,(by have:=H4.o.1;simpa using this),by have:=H4.o.2.2.1;omega,H4.o.2.2.2⟩
 case rest =>
  obtain⟨AQ,rfl,C,B,p⟩:=hcut
  rename World=>wc
  have HL:=Zz (Zq C B);have cr:=k.o.2.1.size;obtain⟨hH,hS,hG,hU⟩:=H3.o;have de:De G G.n:=H1.o.2.1.same (hG.1.trans J.o.symm) hG.2.1 hG.2.2;obtain⟨wd,P⟩:∃wd,wd=wc.alloc (.cells #[.int .u64 0] 71):=⟨_,rfl⟩;obtain⟨bb,al⟩:∃bb,bb=wc.heap.size:=⟨_,rfl⟩;have ar:Below V.heap.size V wd:=by rw[P];exact p.alloc p.size _
  have ae:Lo e G g 0 pl:=hS.en de.ord j.o.1 pl;have hD:Dp s wd hb D bd (some rk) ub bb 13000000 G g 0 pl e:=⟨(hH.below ar).1,⟨⟨_,(ar.block ub (Zaa hU.Au)).trans hU.Au,rfl,rfl⟩,⟨0,by rw[P,al];exact heap_alloc_new wc _,by omega⟩⟩,ae⟩;have T:=ae.left60 (by rw[hS.tok];decide)
  have E:(AQ:Int)=G.dl\/(pl=true/\(AQ:Int)=CN G g G.n):=by
   rw[hG.1,hG.2.1,<-Sa F.n F.n hG.2.2 (Zx _)];exact C
  have u:=Zz (Zq hD (Zq T (Zq E (Zq (show s.heap.size<=bb by have h1:=hH.Dt.size;have h2:=p.size;omega) (Zy z.o.2.2.2.1 cr)))));clear C B p cr hH hS hG hU de ar ae hD T E bw f13
  go_upto_region 12 with fail
  rw[<-P,<-al];clear P al;go_wp2_with fail
  go_loopw [22] (fun tv wr=>∃(t:Nat) (er:Ab) (Zr:Nat),tv= .int .i64 t/\t<=AQ/\Dp s wr hb D bd (some rk) ub bb Zr G g t pl er/\Zr<=13000000+130000000 * t/\left (er.at_ 1)<=60) (fun tv _=>AQ - (intOf tv).toNat)
  case atStart=>exact⟨0,e,13000000,rfl,by omega,u.o.1,by omega,u.o.2.1⟩
  case round =>
   obtain⟨t,er,Zr,rfl,dd,hd,hz,hl⟩:=hrel
   rename World=>wr
   have c:=Zz (Zq hd (Zq hz (Zq hl (Zq dd HL.o.2))));clear dd hd hz hl;by_cases h1:t<AQ
   case neg =>
    have i1:¬(t:Int)<(AQ:Int):=by omega
    have da:=c.o.1.l.over j.o.1 (by
     have:=u.o.2.2.1;have e1:t=AQ:=by have:=c.o.2.2.2.1;omega
     rw[e1];exact this)
    have bh:=Zz da;have b0:=c.o.1.b.cells.1;have b3:=c.o.1.b.cells.2;have eg:=fun o=>cell_later ((Zk wr.heap.size wr).alloc (Zx _) o) b0;have ei:=fun o=>cell_later ((Zk wr.heap.size wr).alloc (Zx _) o) b3;have HQ:=Zz (fun wx (h:Below wr.heap.size wr wx)=>US (c.o.1.below h));clear da i1;go_wp2_with fail
    go_cut [26,27] from 99 to 110 (fun xv ev wc=>∃xb:Nat,xv= .pointer (some ⟨xb,0,none⟩)/\ev= .int .i64 0/\Below wr.heap.size wr wc/\wc.cell? ⟨xb,1,none⟩=some (.int .i64 (er.at_ 1).st))
    case first =>
     go_region_with (go_at_call 27;refine (HQ.o _ (by first | exact (Zk _ wr).drew | exact ((Zk _ wr).alloc (Zx _) _).drew)).mono ?_;rintro _ w5 ⟨a1,n1,c1,a2,n2,c2,rfl,q1⟩;have H5:=Zz q1;first
      | (have I:=(q1.block wr.heap.size (by simp)).trans (heap_alloc_new wr (.cells #[.int .u64 0, .int .i64 0, .slice none 0 0, .slice none 0 0] 50));have k0:=Zad I 0;have k1:=Zad I 1;have k2:=Zad I 2;have k3:=Zad I 3;have g0:=Za9 I 0;have g1:=Za9 I 1;have g2:=Za9 I 2;have g3:=Za9 I 3;have HK:=Zz I;clear I q1)
      | clear q1)
     all_goals go_wp2_with fail
     all_goals go_meet
     all_goals first
      | (refine⟨_,rfl,rfl,?_,Zaj (Zab (Zab (Zab (Zab HK.o _) _) _) _) 1⟩
         have hz:Below wr.heap.size wr w5:=(((Zk wr.heap.size wr).alloc (Zx _) _).drew).trans (H5.o.mono (by simp));exact (((hz.setCell (Zx _) _).setCell (Zx _) _).setCell (Zx _) _).setCell (Zx _) _)
      | (refine⟨_,rfl,rfl,?_,Zaj (heap_alloc_new _ _) 1⟩
         have hz:Below wr.heap.size wr w5:=((Zk wr.heap.size wr).drew).trans (H5.o.mono (by simp));exact hz.alloc hz.size _)
    case rest =>
     obtain⟨xb,rfl,rfl,h,x1⟩:=hcut
     rename World=>wx
     have dy:=Zz (Ta (c.o.1.hh.below h).1 (c.o.1.l.none_ bh.o));have fh:=cell_later h b0;have i9:((er.at_ 1).st != 1)=true:=bne_iff_ne.2 bh.o;have bf:=Zz (h.mono (Zv k.o.2.1.size c.o.1.hh.Dt.size));have S:=k.o.2.1.trans (c.o.1.hh.Dt.mono k.o.2.1.size);have b9:=Zz S;clear h b0 b3 eg ei S
     go_upto_region 29 with (go_at_call 28;refine dy.o.mono ?_;rintro _ w6 ⟨rfl,aj⟩;have fq:=cell_later aj x1;have H6:=Zz aj;clear aj x1)
     go_wp2_with fail
     go_ret
     exact⟨rfl,(b9.o.trans bf.o).trans (H6.o.mono (b9.o.trans bf.o).size)⟩
   case pos =>
    have i1:(t:Int)<(AQ:Int):=by omega
    have fj:¬(g:Int)=0:=by have:=j.o.1;omega
    go_upto_region 15 with fail
    go_cut [66] from 60 to 65 (fun v wc=>∃y:Bool,v= .bool y/\(y=true↔pl=true/\t % g=0)/\Below wr.heap.size wr wc)
    case first =>
     cases pl with
     | false =>
      go_wp2_with fail
      go_meet
      exact⟨false,rfl,by simp,Zk _ _⟩
     | true =>
      by_cases h2:t % g=0
      ·have e3:(t:Int).tmod (g:Int)=0:=by rw[Int.tmod_eq_emod_of_nonneg (by omega)];omega
       go_wp2_with fail
       go_meet
       exact⟨true,rfl,by simp[h2],Zk _ _⟩
      ·have e3:((t:Int) % (g:Int) == 0)=false:=beq_eq_false_iff_ne.2 (by omega)
       go_wp2_with fail
       go_meet
       exact⟨false,rfl,by simp[h2],Zk _ _⟩
    case rest =>
     obtain⟨y,rfl,hy,p⟩:=hcut
     rename World=>wc
     have HY:=Zz hy;have HC:=Zz (c.o.1.below p);clear hy p
     go_upto_if 66 with fail
     go_cut [] from 67 to 71 (fun wd=>∃Y:Ab,Dp s wd hb D bd (some rk) ub bb (Zr+122000000) G g t pl Y/\(pl=true->t % g=0->Y.queue=[])/\left (Y.at_ 1)<=60)
     case first =>
      cases y with
      | false =>
       go_wp2_with fail
       go_meet
       exact⟨er,HC.o.mono (by omega),fun a b=>(by have:=HY.o.2 ⟨a,b⟩;cases this),c.o.2.2.1⟩
      | true =>
       have dp:=Zz (Sy s wc hb D bd ub bb Zr g t (some rk) G pl er wh HC.o (by have:=c.o.2.1;have:=c.o.2.2.2.1;have:=c.o.2.2.2.2;omega) (HY.o.1 rfl).2 (by have:=c.o.2.2.2.1;have:=c.o.2.2.2.2;omega) c.o.2.2.1 u.o.2.2.2.1 u.o.2.2.2.2 ee.o)
       go_upto_region 17 with (go_at_call 24;refine dp.o.mono ?_;rintro _ wd ⟨rfl,Y,q1,r,H⟩;have HD:=Zz (Zq q1 (Zq r H));clear q1 r H)
       go_wp2_with fail
       go_meet
       exact⟨Y,HD.o.1,fun _ _=>HD.o.2.1,HD.o.2.2⟩
     case rest =>
      obtain⟨Y,ck,dc,B⟩:=hcut
      rename World=>wd
      have W:=Zz (Zq ck (Zq dc B));clear ck dc B
      go_upto_region 19 with fail
      go_cut [76] from 72 to 75 (fun v wx=>∃y:Bool,v= .bool y/\Below wd.heap.size wd wx)
      case first =>
       go_wp2_with (go_at_call 22;refine (bo.o _).mono ?_;rintro _ wx ⟨rfl,M⟩;have M:=M.symm;subst M)
       go_meet
       exact⟨_,rfl,Zk _ _⟩
      case rest =>
       obtain⟨y2,rfl,h⟩:=hcut
       rename World=>wx
       have HX:=Zz (W.o.1.below h);clear h
       go_upto_if 76 with fail
       go_cut [] from 77 to 90 (fun Q=>Dp s Q hb D bd (some rk) ub bb (Zr+122000000) G g t pl Y)
       case first =>
        cases y2 with
        | false =>
         go_wp2_with fail
         go_meet
         exact HX.o
        | true =>
         have x0:=HX.o.b.cells.1;have dr:=Zz (Yr HX.o t)
         go_upto_region 21 with (go_at_call 25;refine dr.o.mono ?_;rintro _ Q ⟨rfl,q1⟩;have bp:=Zz q1;clear q1)
         clear x0;have x0:=bp.o.b.cells.1;have du:=Zz (fun wz (f:Below Q.heap.size Q wz)=>Ys (bp.o.below f) (by have:=c.o.2.1;have:=c.o.2.2.2.1;have:=c.o.2.2.2.2;omega))
         go_region_with (first
          | (go_at_call 13;refine (HW.o _).mono ?_;rintro _ wz ⟨rfl,f⟩;have fm:=cell_later f x0;have HZ:=Zz f;clear f)
          | (go_at_call 12;refine (du.o _ (((Zk _ Q).drew).trans (HZ.o.mono (Zx _)))).mono ?_;rintro _ fc ⟨rfl,q1⟩;have K:=Zz q1;clear q1))
         all_goals
          go_wp2_with fail
          go_meet
          exact K.o
       case rest =>
        rename World=>Q
        have br:=Zz hcut;clear hcut;have y0:=br.o.b.cells.1;have dw:=Zz (fun wz (f:Below Q.heap.size Q wz)=>Yu (br.o.below f) (by have:=c.o.2.1;have:=c.o.2.2.2.1;have:=c.o.2.2.2.2;omega) j.o.1 j.o.2 (by have:=c.o.2.2.2.1;have:=c.o.2.2.2.2;omega) W.o.2.1 W.o.2.2);have fg:=c.o.2.2.2.2
        go_upto_region 24 with fail
        go_region_with (first
         | (go_at_call 13;refine (HW.o _).mono ?_;rintro _ wz ⟨rfl,f⟩;have fs:=cell_later f y0;have HZ:=Zz f;clear f)
         | (go_at_call 26;refine (dw.o _ (((Zk _ Q).drew).trans (HZ.o.mono (Zx _)))).mono ?_;rintro _ fc ⟨rfl,e3,q1,r⟩;have K:=Zz (Zq q1 r);clear q1 r))
        all_goals
         go_wp2_with fail
         go_roundw
         case rel=>exact⟨t+1,e3,_,by go_num,by omega,K.o.1,by have:=c.o.2.1;omega,K.o.2⟩
         case measure=>simp[intOf];omega
end Go.Proofs.YtgdcjccbdmcebaaGreatDoor
namespace Go.Proofs.YtgdcjccbdmcebaaGreatDoor.En
open Go.RowKit Go.ChangeShapes Go.WideShapes Go.ChangeAt Go.Joins Go.Deep Go.Proofs.YtgdcjccbdmcebaaGreatDoor
theorem own:ownKnob Tryz.prog.godebug=none:=by kernel_rfl
theorem laidOut:laidOutB Tryz.prog=true:=by kernel_rfl
theorem cells3:Tryz.prog.cellsOf 3=1:=by kernel_rfl
theorem table {W:World}(h:laidMetH Tryz.prog Rows.endsRow.laid W):AL W:=Laid.tab_of (laidMetH.filter (fun x=>x.1 == "math/bits.deBruijn64tab") h)
theorem errs {W:World}(h:laidMetH Tryz.prog Rows.endsRow.laid W):Az W:=Laid.err_of (laidMetH.filter (fun x=>x.1 == "errors.errorType") h)
theorem nams {W:World}(h:laidMetH Tryz.prog Rows.endsRow.laid W):Za4 W:=Laid.VW (laidMetH.filter (fun x=>x.1 == "flowkeeper/logs.names") h)
theorem open_list {H:Type}{enc:TypeId×Value->H}{W:World}{base:Nat}{v:Value}{d:DataW H}{p:List MemPlace}(j:Value.okWide Tryz.prog W .any base 24 v)
  (h:DataW.Trod enc Tryz.prog W 0 (fun _=>true) true 24 v d p):∃(a:Option Addr) (n c:Nat) (f:Nat->Int),v= .slice a n c/\Dq W a n c f:=by
 obtain⟨a0,len,cap,rfl⟩:=okWide_slice Tryz.underlying24 j;obtain⟨fuel,hf⟩:=h;rcases open_ints Tryz.underlying24 Tryz.underlying3 cells3 hf with⟨e,_⟩ | ⟨a,n,c,m,e,_,hl,hm,s,_,g,l⟩
 ·simp only[Value.cells,List.cons.injEq,Value.slice.injEq,and_true] at e
  obtain⟨rfl,rfl,rfl⟩:=e;exact⟨none,0,0,fun _=>0,rfl,Zu rfl,fun k i=>by omega,fun k i=>by omega,Nat.zero_le _⟩
 ·simp only[Value.cells,List.cons.injEq,Value.slice.injEq,and_true] at e
  obtain⟨rfl,rfl,rfl⟩:=e;simp only[if_true] at s
  have o:∀k,k<len-> -9223372036854775808<=m.getD k 0/\m.getD k 0<=9223372036854775807:=fun k i=>by
   refine bounds_i64 (l _ ?_);rw[ZQ,ZZ (by omega)];exact List.getElem_mem _
  refine⟨some a,len,cap,fun k=>m.getD k 0,rfl,?_,fun k i=>(o k i).1,fun k i=>(o k i).2,by omega⟩;by_cases r:len=0
  ·exact Zu r
  ·obtain⟨b,off,rfl,q⟩:=ints_at g (by omega)
   exact Zj ⟨b,off,rfl,hl,hm,World.block_lt_of_cell? _ _ (q 0 (by omega)),fun k i=>q k (by omega)⟩
theorem open_b {H:Type}{enc:TypeId×Value->H}{W:World}{base:Nat}{v:Value}{d:DataW H}{p:List MemPlace}(a:Value.okWide Tryz.prog W .any base 4 v)
  (h:DataW.Trod enc Tryz.prog W 0 (fun _=>true) true 4 v d p):∃b,v= .bool b/\d= .lit (.bool b)/\p=[]:=by
 obtain⟨b,rfl⟩:=okWide_bool Tryz.underlying4 a;obtain⟨fuel,hf⟩:=h;obtain⟨f,c,e⟩:=DataW.trod_bool Tryz.underlying4 hf;simp only[Value.cells,List.cons.injEq,Value.bool.injEq,and_true] at c;subst c;exact⟨b,rfl,(Prod.mk.inj e).1,(Prod.mk.inj e).2⟩
theorem contract (H:Type)(enc:TypeId×Value->H)(W:World)(base:Nat)(args:Array Value)(s gs:List (DataW H))(before:List MemPlace)
  (hval:∀(j:Nat) t v,Tryz.f9.params[j]? =some t->args[j]? =some v->Value.okWide Tryz.prog W .any base t v)
  (hW:DataW.Whole enc Tryz.prog Tryz.f9.params.toList Rows.endsSpec.vars false W args.toList s gs before)
  (hL:laidMetH Tryz.prog Rows.endsRow.laid W) (hS:W.ShapedOpen Tryz.prog) :
  Calls Tryz.prog 9 args W fun e a=>∃v,e= .returned v/\Rows.endsSpec.post enc Tryz.prog Tryz.f9 false true false false W args v a:=by
 have c:=hW;obtain⟨p,q,i,hV,rfl,ae,ag⟩:=hW;have o:DataW.TrodAll enc Tryz.prog W 0 (fun _=>true) true Tryz.f9.params.toList args.toList s p:=i;rw[Tryz.params9] at o hval;obtain⟨v0,aj,d0,L,p0,q0,r,rfl,rfl,T,r0⟩:=trodAll_cons o;obtain⟨v1,al,d1,M,p1,q1,rfl,rfl,rfl,u,r1⟩:=trodAll_cons r0;obtain⟨v2,ar,d2,N,p2,q2,rfl,rfl,rfl,w,r2⟩:=trodAll_cons r1;obtain⟨v3,au,d3,O,p3,q3,rfl,rfl,rfl,U,y⟩:=trodAll_cons r2;obtain⟨v4,av,d4,P,p4,q4,rfl,rfl,rfl,V,z⟩:=trodAll_cons y;obtain⟨v5,aw,d5,Q,p5,q5,rfl,rfl,rfl,X,A⟩:=trodAll_cons z;obtain⟨v6,ax,d6,R,p6,q6,rfl,rfl,rfl,Y,B⟩:=trodAll_cons A;obtain⟨D,ay,d7,S,p7,q7,rfl,rfl,rfl,Z,C⟩:=trodAll_cons B;obtain⟨rfl,rfl,rfl⟩:=trodAll_nil C;obtain rfl:args=#[v0,v1,v2,v3,v4,v5,v6,D]:=by cases args;simp_all
 obtain⟨rfl,rfl⟩:=trodVars_none hV;obtain⟨x0,rfl,rfl,rfl,F⟩:=open_int Tryz.underlying3 (hval 0 3 v0 rfl rfl) T;obtain⟨x3,rfl,rfl,rfl,G⟩:=open_int Tryz.underlying3 (hval 3 3 v3 rfl rfl) U;obtain⟨x4,rfl,rfl,rfl,I⟩:=open_int Tryz.underlying3 (hval 4 3 v4 rfl rfl) V;obtain⟨x5,rfl,rfl,rfl,J⟩:=open_int Tryz.underlying3 (hval 5 3 v5 rfl rfl) X;obtain⟨E,rfl,rfl,rfl⟩:=open_b (hval 6 4 v6 rfl rfl) Y;obtain⟨x7,rfl,rfl,rfl,K⟩:=open_int Tryz.underlying3 (hval 7 3 D rfl rfl) Z;clear i o r0 r1 r2 y z A B C;simp only[List.append_nil,List.nil_append] at c;have m:∀x∈p1++p2,x.block<W.heap.size:=fun x n=>by simpa using c.lt x n
 have d:∀a:World,Below W.heap.size W a->DataW.Trod enc Tryz.prog a 0 (fun b=>decide (b<W.heap.size)) true 24 v1 d1 p1 :=
  fun a g=>Below.trod laidOut (by kernel_rfl) (of_decide_eq_true (by kernel_rfl)) u g fun x n=>m x (List.mem_append_left _ n)
 have f:∀a:World,Below W.heap.size W a->DataW.Trod enc Tryz.prog a 0 (fun b=>decide (b<W.heap.size)) true 24 v2 d2 p2 :=
  fun a g=>Below.trod laidOut (by kernel_rfl) (of_decide_eq_true (by kernel_rfl)) w g fun x n=>m x (List.mem_append_right _ n)
 obtain⟨a1,n1,c1,f1,rfl,k⟩:=open_list (hval 1 24 v1 rfl rfl) u;obtain⟨a2,n2,c2,f2,rfl,l⟩:=open_list (hval 2 24 v2 rfl rfl) w;refine (UU W x0 x3 x4 x5 x7 E a1 a2 n1 c1 n2 c2 f1 f2 (bounds_i64 F) (bounds_i64 G) (bounds_i64 I) (bounds_i64 J) (bounds_i64 K) k l (errs hL) (nams hL) (table hL) (Laid.WV hS) (Laid.tab_lt (table hL)) (Laid.err_lt (errs hL))).mono fun e a ⟨he,g⟩=> ?_;subst he;refine⟨_,rfl,_,_,_,[]++[],[]++(p1++(p2++([]++([]++([]++([]++([]++[]))))))),[],c,?_,?_,rfl,g.frame _,fun h=>by cases h⟩
 ·exact trodAll_cons_mk (shut_bool Tryz.underlying4 true) trodAll_mk0
 ·exact trodAll_cons_mk (shut_int Tryz.underlying3 F) (trodAll_cons_mk (d _ g) (trodAll_cons_mk (f _ g) (trodAll_cons_mk (shut_int Tryz.underlying3 G) (trodAll_cons_mk (shut_int Tryz.underlying3 I) (trodAll_cons_mk (shut_int Tryz.underlying3 J) (trodAll_cons_mk (shut_bool Tryz.underlying4 E) (trodAll_cons_mk (shut_int Tryz.underlying3 K) trodAll_mk0)))))))
def wargs:Array Value:=#[.int .i64 0, .slice none 0 0, .slice none 0 0, .int .i64 0, .int .i64 0, .int .i64 0, .bool false, .int .i64 0]
theorem laid_met (os:Os):laidMetH Tryz.prog Rows.endsRow.laid ((Laid.Kh os).forCall (fun _ _=>0) ⟨#[],wargs,[]⟩).memory :=
 laidMetH_of_parts (laidMet_of_run' 8 (by kernel_rfl) (by kernel_rfl)) (by kernel_rfl)
theorem reads (os:Os){H:Type}(enc:TypeId×Value->H):∃places,DataW.whole enc Tryz.prog ((Laid.Kh os).forCall (fun _ _=>0) ⟨#[],wargs,[]⟩).memory Tryz.f9.params.toList Rows.endsSpec.vars false wargs.toList 8=some ([.lit (.int .i64 0), .nil, .nil, .lit (.int .i64 0), .lit (.int .i64 0), .lit (.int .i64 0), .lit (.bool false), .lit (.int .i64 0)],[],places) :=
 ⟨[],by kernel_rfl⟩
theorem lifted (os:Os)(started:os.Started)(H:Type)(enc:TypeId×Value->H)(F:Stop.Interp) :
  ReturnsInHanded {} Tryz.checked os 9 .any ((OpenSpec.ofChange Rows.endsSpec).preRow enc Tryz.prog Tryz.f9 Rows.endsRow.domain false Rows.endsRow.laid) (((OpenSpec.ofChange Rows.endsSpec).at F).post enc Tryz.prog Tryz.f9 false true false false):=by
 obtain⟨places,g⟩:=reads os enc
 refine returnsInHanded_of_row (C:=Tryz.checked) (s:=OpenSpec.ofChange Rows.endsSpec) own started (by kernel_rfl) Tryz.func9
  (witness_row_at (enc:=enc) (C:=Tryz.checked) false (Laid.Kh os) wargs rfl (by kernel_rfl) (by kernel_rfl) (by kernel_rfl)
   (OpenSpec.preRow_of_cond 8 g (by kernel_rfl) (fun k f=>by cases f) (by kernel_rfl) (laid_met os))) ?_
 intro W base args b gs before a e _ _ _ c d _;exact contract H enc W base args b gs before a e c d
theorem p1:Tryz.prog.funcNamed "flowkeeper/flowkeeperkeep.Ends"=some 9:=by kernel_rfl
theorem p2:(Rows.endsRow.inPlace == Tryz.prog.inPlace 9)=true:=by kernel_rfl
theorem p3:(Rows.endsRow.unfollowed == Tryz.prog.unfollowed 9)=true:=by kernel_rfl
theorem p4:(Rows.endsRow.recurses == Tryz.prog.recurses 9)=true:=by kernel_rfl
theorem p5:(Rows.endsRow.named == Tryz.prog.varsNamed 9)=true:=by kernel_rfl
theorem p6:(Rows.endsRow.plainKeys == Tryz.prog.plainKeys)=true:=by kernel_rfl
theorem p7:mapsRowed Tryz.prog=true:=by kernel_rfl
theorem p8:true=Rows.endsRow.goesBy Tryz.prog:=by kernel_rfl
theorem closed:joinedFacts Tryz.prog 9 Tryz.f9 Rows.endsSpec Rows.endsRow=true:=by
 unfold joinedFacts;rw[laidOut,p7,p2,p3,p4,p5,p6]
 kernel_rfl
theorem said:Rows.EndsSaid :=
 OpenClaim.holds_of_wide_leaving 9 Tryz.f9 rfl rfl rfl rfl rfl rfl rfl ⟨rfl,rfl,rfl,rfl,rfl⟩ rfl rfl rfl rfl rfl p1 Tryz.func9 closed
  (of_decide_eq_true (by kernel_rfl)) (by unfold Func.isWrapper;first | (rw[if_pos (by decide +kernel)];kernel_rfl) | (rw[if_neg (by decide +kernel)];exact⟨rfl,rfl⟩))
  (fun os started H enc _=>Ii (by rw[OpenClaim.pre_eq_preRow];exact lifted os started H enc (fun _ _ _=>0)))
theorem plain (f:FuncId)(fn:Func)(hf:Tryz.pinned.checked.prog.funcNamed "flowkeeper/flowkeeperkeep.Ends"=some f)(b:Tryz.pinned.checked.prog.funcs[f]? =some fn) :
  true=Tryz.pinned.checked.prog.looks []/\∀(j:Nat) t,fn.params[j]? =some t->Tryz.pinned.checked.prog.wantsStandIn t=false:=by
 obtain rfl:f=9:=(Option.some.inj (p1.symm.trans hf)).symm;obtain rfl:fn=Tryz.f9:=(Option.some.inj (Tryz.func9.symm.trans b)).symm;refine⟨by kernel_rfl,fun j t c=> ?_⟩;rw[Tryz.params9] at c;have hm:=Array.mem_of_getElem? c;have d:Tryz.prog.wantsStandIn 3=false:=by kernel_rfl
 have e:Tryz.prog.wantsStandIn 4=false:=by kernel_rfl
 have a:Tryz.prog.wantsStandIn 24=false:=by kernel_rfl
 simp only[Array.mem_def,List.mem_cons,List.not_mem_nil,or_false] at hm;rcases hm with rfl | rfl | rfl | rfl | rfl | rfl | rfl | rfl
 all_goals first | exact d | exact a | exact e
theorem card:Rows.EndsCardSaid :=
 TU .later _ _ _ _ said (by kernel_rfl) ends_row_tie rfl ⟨rfl,rfl⟩ (by kernel_rfl) rfl plain p8
end Go.Proofs.YtgdcjccbdmcebaaGreatDoor.En
namespace Go.Proofs.YtgdcjccbdmcebaaGreatDoor
theorem ends_card:Rows.EndsCardSaid:=En.card
end Go.Proofs.YtgdcjccbdmcebaaGreatDoor
