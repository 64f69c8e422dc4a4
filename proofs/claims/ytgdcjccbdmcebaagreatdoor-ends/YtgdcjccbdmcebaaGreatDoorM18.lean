import Derived.Test.YtgdcjccbdmcebaaGreatDoorM17
set_option linter.unusedSimpArgs false
set_option linter.unusedVariables false
set_option maxHeartbeats 8000000
set_option maxRecDepth 100000
open Go.Proofs.Tryz
namespace Go.Proofs.YtgdcjccbdmcebaaGreatDoor
section
open Go.RowKit
def Nd (w:World)(D:Nat)(g:Nat->Value):Prop:=∀j,j<7->w.cell? ⟨D,j,none⟩=some (g j)/\w.frozen? ⟨D,j,none⟩=false
theorem Nd.set {w:World}{D:Nat}{g:Nat->Value}(h:Nd w D g)(i:Nat)(hi:i<7)(v:Value):Nd (w.setCell ⟨D,i,none⟩ v) D (fun j=>if j=i then v else g j):=by
 intro j a;refine⟨?_,by rw[World.frozen?_setCell];exact (h j a).2⟩;by_cases e:j=i
 ·subst e
  simp only[if_true];exact World.cell?_setCell_same _ _ _ (h j a).1
 ·simp only[e,if_false]
  rw[World.cell?_setCell_other _ _ _ _ (fun b=>e (by have:=(Addr.mk.inj b).2.1;omega))];exact (h j a).1
theorem Nd.block {w w':World}{D:Nat}{g:Nat->Value}(h:Nd w D g)(e:w'.heap[D]? =w.heap[D]?):Nd w' D g:=fun j b =>
 ⟨(World.cell?_of_block (a:=⟨D,j,none⟩) e).trans (h j b).1,(World.frozen?_of_block (a:=⟨D,j,none⟩) e).trans (h j b).2⟩
theorem Nd.lt {w:World}{D:Nat}{g:Nat->Value}(h:Nd w D g):D<w.heap.size:=World.block_lt_of_cell? _ _ (h 0 (by omega)).1
theorem Cd.set {w:World}{R D o:Nat}{a:Option Addr}{n cap:Nat}{p:Int}(h:Cd w R a n cap p)(b:D≠R)(v:Value):Cd (w.setCell ⟨D,o,none⟩ v) R a n cap p:=by
 have e:(w.setCell ⟨D,o,none⟩ v).heap[R]? =w.heap[R]? :=Zl w ⟨D,o,none⟩ v R (by simpa using b.symm);exact⟨(World.cell?_of_block (a:=⟨R,0,none⟩) e).trans h.c0,(World.cell?_of_block (a:=⟨R,1,none⟩) e).trans h.c1,(World.frozen?_of_block (a:=⟨R,1,none⟩) e).trans h.f1⟩
theorem Cd.below {w w':World}{R:Nat}{a:Option Addr}{n cap:Nat}{p:Int}(h:Cd w R a n cap p)(c:Below w.heap.size w w'):Cd w' R a n cap p:=by
 have b:R<w.heap.size:=World.block_lt_of_cell? _ _ h.c0;exact⟨(c.cell (p:=⟨R,0,none⟩) b).trans h.c0,(c.cell (p:=⟨R,1,none⟩) b).trans h.c1,(c.frozen (p:=⟨R,1,none⟩) b).trans h.f1⟩
theorem Zcu {a b:World}{R D:Nat}(h:a.grownBy b (some R))(e:a.heap.size<=D)(o:Nat)(v:Value):a.grownBy (b.setCell ⟨D,o,none⟩ v) (some R) :=
 ⟨h.os,h.tape,h.output,Zv h.size (by simp[World.setCell]),fun k c d=>(Zl b ⟨D,o,none⟩ v k (by simp;omega)).trans (h.block k c d)⟩
theorem Zes {a b:World}{R:Nat}(h:Below a.heap.size a b):a.grownBy b (some R):=⟨h.os,h.tape,h.output,h.size,fun k c _=>h.block k c⟩
structure PnI (w x:World)(R:Nat)(a:Option Addr)(n cap q:Nat)(g:Nat->Value):Prop where
 gr:w.grownBy x (some R)
 pd:Cd x R a n cap (q:Nat)
 nd:Nd x (w.heap.size+1) g
 ne:Nd x w.heap.size (fun j=>if j=6 then .slice none 0 0 else .int .i64 0)
theorem PnI.num {w x y:World}{R:Nat}{a:Option Addr}{n cap q c:Nat}{g:Nat->Value}(h:PnI w x R a n cap q g)(d:R<w.heap.size)(b:FG x y R)(hp:Cd y R a n cap (c:Nat))(i:Nat)(hi:i<7)(v:Value) :
  PnI w (y.setCell ⟨w.heap.size+1,i,none⟩ v) R a n cap c (fun j=>if j=i then v else g j):=by
 have e:=h.nd.lt;refine⟨Zcu (Za8 h.gr b.grown) (by omega) i v,hp.set (by omega) v,(h.nd.block (b.block _ (by omega))).set i hi v,?_⟩;refine (h.ne.block (b.block _ (by omega))).block (Zl y ⟨w.heap.size+1,i,none⟩ v w.heap.size (by simp))
def XS (B:Nat)(w':World)(R:Nat)(a:Option Addr)(n cap:Nat)(f:Nat->Nat)(r:RS)(e:Ending):Prop :=
 (∃q s la lc,VX n f r= .AA q s/\q<=n/\e= .returned (.agg #[.int .i64 (BI n f r:Nat), .int .i64 (BI n f (Bg n f 1 r):Nat), .int .i64 (BI n f (Bg n f 2 r):Nat), .int .i64 (BI n f (Bg n f 3 r):Nat), .int .i64 (BI n f (Bg n f 4 r):Nat), .int .i64 (BI n f (Bg n f 5 r):Nat), .slice la (BI n f (Bg n f 6 r)) lc]) /\
  w'.ownsRow B 3 1 (.slice la (BI n f (Bg n f 6 r)) lc) (BI n f (Bg n f 6 r)) (Zbz (BI n f (Bg n f 6 r)) fun k=>BI n f (Bg n f (7+k) r))/\Cd w' R a n cap (q:Nat)) \/
 (∃s,VX n f r= .bad s/\e=XZ s)
theorem RJ {n:Nat}{f:Nat->Nat}{r a:RS}(b:Bg n f 6 r=a):VX n f r=Bg n f (1+BI n f a) a:=by
 unfold VX;rw[b,show 7+BI n f a=6+(1+BI n f a) by omega,Ei,b]
theorem TE (w:World)(R V:Nat)(a:Option Addr)(n cap:Nat)(f:Nat->Nat)(p s:Nat)(E:R<w.heap.size)(av:V≠R)(hV:w.cell? ⟨V,0,none⟩=some (.pointer (some ⟨R,0,none⟩)))(hn:n<=maxLen)(hp:p<=n)(h:Cd w R a n cap p)(hR:∀b o,a=some ⟨b,o,none⟩->b≠R)(hb:Aw w a n cap f) :
  Calls prog 263 #[.pointer (some ⟨V,0,none⟩)] w fun e w'=>XS w.heap.size w' R a n cap f (.AA p s) e/\w.grownBy w' (some R):=by
 have K:=Zz hb;have l:=Zz hR;have HP:=Zz h;have S:=Zz (fun x (hg:w.grownBy x (some R))=>hg.cell (a:=⟨V,0,none⟩) hV (by simpa using av));clear hb hR h;have aw:Hid (∀o1 o2,Below w.heap.size w ((w.alloc o1).alloc o2)):=Zz fun o1 o2=>((Zk _ _).alloc (Zx _) _).alloc (by simp) _
 have i0:=six0 (w.heap.size+1);have i1:=six1 (w.heap.size+1);have i2:=six2 (w.heap.size+1);have i3:=six3 (w.heap.size+1);have i4:=six4 (w.heap.size+1);have i5:=six5 (w.heap.size+1)
 go_enter func263,ntmps263
 go_wp2_with fail
 refine (FO (w.heap.size+1) _).mono ?_;rintro e x0 ⟨rfl,H⟩;have T:Below w.heap.size w x0:=(aw.o _ _).trans (H.mono (by simp;omega))
 have u:Hid (PnI w x0 R a n cap p (fun j=>if j=6 then .slice none 0 0 else .int .i64 0)):=Zz ⟨Zes T,HP.o.below T,by
  refine Nd.block ?_ (H.block _ (by simp));intro j hj;rcases (show j=0\/j=1\/j=2\/j=3\/j=4\/j=5\/j=6 by omega) with rfl | rfl | rfl | rfl | rfl | rfl | rfl<;>simp,by
  refine Nd.block ?_ (H.block _ (by simp;omega));intro j hj;rcases (show j=0\/j=1\/j=2\/j=3\/j=4\/j=5\/j=6 by omega) with rfl | rfl | rfl | rfl | rfl | rfl | rfl<;>simp⟩
 clear H T
 generalize KL (w.heap.size+1)=pv at i0 i1 i2 i3 i4 i5
 have L:Hid (Bg n f 0 (.AA p s)= .AA p s):=Zz rfl;have V0:=S.o _ u.o.gr;obtain⟨k0,W⟩:=u.o.nd 0 (by omega);go_wp2_with fail
 refine wp_loop_rounds 7 ?_;rw[rounds_succ];go_wp2_with fail
 refine (Zc7 _ R a n cap f p hn hp u.o.pd l.o (K.o.grown l.o u.o.gr)).mono ?_;rintro e y0 ⟨⟨v0,q1,d,rfl,c⟩ | ⟨d,rfl,c⟩,g⟩
 case inr =>
  have q:=Zz (Zq d g.grown);clear d c g;go_wp2_with fail
  refine⟨rfl,Zj ⟨p,?_,rfl⟩,Za8 u.o.gr q.o.2⟩;exact Zct (j:=0+1) (by show LU n f (Bg n f 0 _)=_;rw[L.o];exact Zcs q.o.1) (by omega)
 have ax:q1<=n:=(Zcc d).2.1;have M:Hid (Bg n f 1 (.AA p s)= .AA q1 p):=Zz (by show LU n f (Bg n f 0 _)=_;rw[L.o];exact Zcb d);have ae:Hid (BI n f (Bg n f 0 (.AA p s))=v0):=Zz (by rw[L.o];exact Zca d);have y:=Zz (u.o.num E g c 0 (by omega) (.int .i64 v0));obtain⟨k0,W⟩:=(u.o.nd.block (g.block _ (by omega))) 0 (by omega);clear d c g V0;go_wp2_with fail
 have V1:=S.o _ y.o.gr;clear k0 W;rw[rounds_succ];go_wp2_with fail
 refine (Zc7 _ R a n cap f q1 hn ax y.o.pd l.o (K.o.grown l.o y.o.gr)).mono ?_;rintro e y1 ⟨⟨v1,X,d,rfl,c⟩ | ⟨d,rfl,c⟩,g⟩
 case inr =>
  have q:=Zz (Zq d g.grown);clear d c g;go_wp2_with fail
  refine⟨rfl,Zj ⟨q1,?_,rfl⟩,Za8 y.o.gr q.o.2⟩;exact Zct (j:=1+1) (by show LU n f (Bg n f 1 _)=_;rw[M.o];exact Zcs q.o.1) (by omega)
 have ay:X<=n:=(Zcc d).2.1;have N:Hid (Bg n f 2 (.AA p s)= .AA X q1):=Zz (by show LU n f (Bg n f 1 _)=_;rw[M.o];exact Zcb d);have ag:Hid (BI n f (Bg n f 1 (.AA p s))=v1):=Zz (by rw[M.o];exact Zca d);have A:=Zz (y.o.num E g c 1 (by omega) (.int .i64 v1));obtain⟨k1,bo⟩:=(y.o.nd.block (g.block _ (by omega))) 1 (by omega);clear d c g V1;go_wp2_with fail
 have V2:=S.o _ A.o.gr;clear k1 bo;rw[rounds_succ];go_wp2_with fail
 refine (Zc7 _ R a n cap f X hn ay A.o.pd l.o (K.o.grown l.o A.o.gr)).mono ?_;rintro e y2 ⟨⟨v2,Y,d,rfl,c⟩ | ⟨d,rfl,c⟩,g⟩
 case inr =>
  have q:=Zz (Zq d g.grown);clear d c g;go_wp2_with fail
  refine⟨rfl,Zj ⟨X,?_,rfl⟩,Za8 A.o.gr q.o.2⟩;exact Zct (j:=2+1) (by show LU n f (Bg n f 2 _)=_;rw[N.o];exact Zcs q.o.1) (by omega)
 have az:Y<=n:=(Zcc d).2.1;have O:Hid (Bg n f 3 (.AA p s)= .AA Y X):=Zz (by show LU n f (Bg n f 2 _)=_;rw[N.o];exact Zcb d);have aj:Hid (BI n f (Bg n f 2 (.AA p s))=v2):=Zz (by rw[N.o];exact Zca d);have B:=Zz (A.o.num E g c 2 (by omega) (.int .i64 v2));obtain⟨k2,bp⟩:=(A.o.nd.block (g.block _ (by omega))) 2 (by omega);clear d c g V2;go_wp2_with fail
 have V3:=S.o _ B.o.gr;clear k2 bp;rw[rounds_succ];go_wp2_with fail
 refine (Zc7 _ R a n cap f Y hn az B.o.pd l.o (K.o.grown l.o B.o.gr)).mono ?_;rintro e y3 ⟨⟨v3,Z,d,rfl,c⟩ | ⟨d,rfl,c⟩,g⟩
 case inr =>
  have q:=Zz (Zq d g.grown);clear d c g;go_wp2_with fail
  refine⟨rfl,Zj ⟨Y,?_,rfl⟩,Za8 B.o.gr q.o.2⟩;exact Zct (j:=3+1) (by show LU n f (Bg n f 3 _)=_;rw[O.o];exact Zcs q.o.1) (by omega)
 have b9:Z<=n:=(Zcc d).2.1;have P:Hid (Bg n f 4 (.AA p s)= .AA Z Y):=Zz (by show LU n f (Bg n f 3 _)=_;rw[O.o];exact Zcb d);have al:Hid (BI n f (Bg n f 3 (.AA p s))=v3):=Zz (by rw[O.o];exact Zca d);have C:=Zz (B.o.num E g c 3 (by omega) (.int .i64 v3));obtain⟨k3,br⟩:=(B.o.nd.block (g.block _ (by omega))) 3 (by omega);clear d c g V3;go_wp2_with fail
 have V4:=S.o _ C.o.gr;clear k3 br;rw[rounds_succ];go_wp2_with fail
 refine (Zc7 _ R a n cap f Z hn b9 C.o.pd l.o (K.o.grown l.o C.o.gr)).mono ?_;rintro e y4 ⟨⟨v4,J,d,rfl,c⟩ | ⟨d,rfl,c⟩,g⟩
 case inr =>
  have q:=Zz (Zq d g.grown);clear d c g;go_wp2_with fail
  refine⟨rfl,Zj ⟨Z,?_,rfl⟩,Za8 C.o.gr q.o.2⟩;exact Zct (j:=4+1) (by show LU n f (Bg n f 4 _)=_;rw[P.o];exact Zcs q.o.1) (by omega)
 have bf:J<=n:=(Zcc d).2.1;have Q:Hid (Bg n f 5 (.AA p s)= .AA J Z):=Zz (by show LU n f (Bg n f 4 _)=_;rw[P.o];exact Zcb d);have ar:Hid (BI n f (Bg n f 4 (.AA p s))=v4):=Zz (by rw[P.o];exact Zca d);have D:=Zz (C.o.num E g c 4 (by omega) (.int .i64 v4));obtain⟨k4,bw⟩:=(C.o.nd.block (g.block _ (by omega))) 4 (by omega);clear d c g V4;go_wp2_with fail
 have V5:=S.o _ D.o.gr;clear k4 bw;rw[rounds_succ];go_wp2_with fail
 refine (Zc7 _ R a n cap f J hn bf D.o.pd l.o (K.o.grown l.o D.o.gr)).mono ?_;rintro e y5 ⟨⟨v5,q6,d,rfl,c⟩ | ⟨d,rfl,c⟩,g⟩
 case inr =>
  have q:=Zz (Zq d g.grown);clear d c g;go_wp2_with fail
  refine⟨rfl,Zj ⟨J,?_,rfl⟩,Za8 D.o.gr q.o.2⟩;exact Zct (j:=5+1) (by show LU n f (Bg n f 5 _)=_;rw[Q.o];exact Zcs q.o.1) (by omega)
 have bh:q6<=n:=(Zcc d).2.1;have G:Hid (Bg n f 6 (.AA p s)= .AA q6 J):=Zz (by show LU n f (Bg n f 5 _)=_;rw[Q.o];exact Zcb d);have au:Hid (BI n f (Bg n f 5 (.AA p s))=v5):=Zz (by rw[Q.o];exact Zca d);have t:=Zz (D.o.num E g c 5 (by omega) (.int .i64 v5));obtain⟨k5,ck⟩:=(D.o.nd.block (g.block _ (by omega))) 5 (by omega);clear d c g V5;go_wp2_with fail
 have V6:=S.o _ t.o.gr;clear k5 ck;rw[rounds_succ];go_wp2_with fail
 have de:=t.o.gr.size;refine (TD _ R a n cap f q6 J (by omega) hn bh t.o.pd l.o (K.o.grown l.o t.o.gr)).mono ?_;rintro e z ⟨hx,hg⟩;have HG:=Zz (Za8 t.o.gr hg);have hD:=t.o.nd.lt;rcases hx with⟨q7,s7,la,lc,F,bj,rfl,I,c⟩ | ⟨s7,F,rfl⟩
 case inr =>
  have q:=Zz F;clear F hg;go_wp2_with fail
  exact⟨rfl,Zj ⟨s7,by rw[RJ G.o];exact q.o,rfl⟩,HG.o⟩
 have q:=Zz (Zq F (Zq I c));have r:=t.o.nd.block (hg.block _ hD (by simp;omega));have i:=t.o.ne.block (hg.block _ (by omega) (by simp;omega));clear F I c hg V6;have cm:=Zz r;have cq:=Zz i;have d0:z.cell? ⟨w.heap.size+1,0,none⟩=some (.int .i64 v0):=by have:=(r 0 (by omega)).1;simpa using this
 have e0:z.cell? ⟨w.heap.size,0,none⟩=some (.int .i64 0):=by have:=(i 0 (by omega)).1;simpa using this
 have ct:=(i 0 (by omega)).2;have d1:z.cell? ⟨w.heap.size+1,1,none⟩=some (.int .i64 v1):=by have:=(r 1 (by omega)).1;simpa using this
 have e1:z.cell? ⟨w.heap.size,1,none⟩=some (.int .i64 0):=by have:=(i 1 (by omega)).1;simpa using this
 have cu:=(i 1 (by omega)).2;have d2:z.cell? ⟨w.heap.size+1,2,none⟩=some (.int .i64 v2):=by have:=(r 2 (by omega)).1;simpa using this
 have e2:z.cell? ⟨w.heap.size,2,none⟩=some (.int .i64 0):=by have:=(i 2 (by omega)).1;simpa using this
 have cy:=(i 2 (by omega)).2;have d3:z.cell? ⟨w.heap.size+1,3,none⟩=some (.int .i64 v3):=by have:=(r 3 (by omega)).1;simpa using this
 have e3:z.cell? ⟨w.heap.size,3,none⟩=some (.int .i64 0):=by have:=(i 3 (by omega)).1;simpa using this
 have da:=(i 3 (by omega)).2;have d4:z.cell? ⟨w.heap.size+1,4,none⟩=some (.int .i64 v4):=by have:=(r 4 (by omega)).1;simpa using this
 have e4:z.cell? ⟨w.heap.size,4,none⟩=some (.int .i64 0):=by have:=(i 4 (by omega)).1;simpa using this
 have db:=(i 4 (by omega)).2;have d5:z.cell? ⟨w.heap.size+1,5,none⟩=some (.int .i64 v5):=by have:=(r 5 (by omega)).1;simpa using this
 have e5:z.cell? ⟨w.heap.size,5,none⟩=some (.int .i64 0):=by have:=(i 5 (by omega)).1;simpa using this
 have dc:=(i 5 (by omega)).2;have d6:z.cell? ⟨w.heap.size+1,6,none⟩=some (.slice none 0 0):=by have:=(r 6 (by omega)).1;simpa using this
 have e6:z.cell? ⟨w.heap.size,6,none⟩=some (.slice none 0 0):=by have:=(i 6 (by omega)).1;simpa using this
 have dd:=(i 6 (by omega)).2;have cr:=(r 6 (by omega)).2
 generalize hm:BI n f (.AA q6 J)=m
 rw[hm] at q;clear r i;go_wp2_with fail
 have U:BI n f (Bg n f 6 (.AA p s))=m:=by rw[G.o];exact hm
 refine bodyPost_ret (v:= .agg #[.int .i64 v0, .int .i64 v1, .int .i64 v2, .int .i64 v3, .int .i64 v4, .int .i64 v5, .slice la m lc]) (by simp[results,Tryz.results263,go_sem,e0,e1,e2,e3,e4,e5,e6]) rfl ⟨Zu ⟨q7,s7,la,lc,?_,bj,?_,?_,?_⟩,?_⟩
 ·rw[RJ G.o,hm];exact q.o.1
 ·rw[U,ag.o,aj.o,al.o,ar.o,au.o]
  have:=ae.o;simp only[Bg] at this;rw[this]
 ·rw[U]
  have e:(fun k=>(BI n f (Bg n f (7+k) (.AA p s)):Int))=fun k=>(BI n f (Bg n f (1+k) (.AA q6 J)):Int):=by
   funext k
   rw[show 7+k=6+(1+k) by omega,Ei,G.o]
  rw[e];exact Zcr ((ownsRow_setCell_below (ownsRow_setCell_below (ownsRow_setCell_below (ownsRow_setCell_below (ownsRow_setCell_below (ownsRow_setCell_below (ownsRow_setCell_below (ownsRow_setCell_below q.o.2.1 (by simp only[];omega) _) (by simp only[];omega) _) (by simp only[];omega) _) (by simp only[];omega) _) (by simp only[];omega) _) (by simp only[];omega) _) (by simp only[];omega) _) (by simp only[];omega) _)) (by omega)
 ·exact (Cd.set (Cd.set (Cd.set (Cd.set (Cd.set (Cd.set (Cd.set (Cd.set q.o.2.2 (by omega) _) (by omega) _) (by omega) _) (by omega) _) (by omega) _) (by omega) _) (by omega) _) (by omega) _)
 ·exact (Zcu (Zcu (Zcu (Zcu (Zcu (Zcu (Zcu (Zcu HG.o (by omega) _ _) (by omega) _ _) (by omega) _ _) (by omega) _ _) (by omega) _ _) (by omega) _ _) (by omega) _ _) (by omega) _ _)
end
section
open Go.RowKit
theorem Ku {w w':World}{B R:Nat}{e:TypeId}{size n:Nat}{v:Value}{xs:List Value}(h:w.ownsRow B e size v n xs)(hg:w.grownBy w' (some R))(b:R<B):w'.ownsRow B e size v n xs:=by
 refine h.kept hg ?_
 cases a:v.ownBlock with
 | none=>exact Zu rfl
 | some z=>right;have:=(h.lt z a).1;simp;omega
theorem An.Vl {B R:Nat}{w w':World}{F:Ad}{v:Value}{k:Nat}{a:Nat->Option Addr}{b:Nat->Nat}(h:An B w F v k a b)(hg:w.grownBy w' (some R))(c:R<B):An B w' F v k a b :=
 ⟨Ku h.own hg c,fun i hi=>Ku (h.ID i hi) hg c⟩
def Un (B:Nat)(w':World)(R:Nat)(a:Option Addr)(n cap:Nat)(f:Nat->Nat)(e:Ending):Prop :=
 (∃q s la lc Na Nc,NH n f= .AA q s/\q<=n/\e= .returned (.slice la (Zah n f).n lc)/\An B w' (Zah n f) (.slice la (Zah n f).n lc) (Zah n f).n Na Nc/\Cd w' R a n cap (q:Nat)) \/
 (∃s,NH n f= .bad s/\e=XZ s)
theorem QK (w:World)(R V:Nat)(a:Option Addr)(n cap:Nat)(f:Nat->Nat)(p s:Nat)(C:Bg n f 1 (.AA 0 0)= .AA p s)(b9:R<w.heap.size)(ae:V≠R)(hV:w.cell? ⟨V,0,none⟩=some (.pointer (some ⟨R,0,none⟩)))(hn:n<=maxLen)(hp:p<=n)(h:Cd w R a n cap p)(hR:∀b o,a=some ⟨b,o,none⟩->b≠R)(hb:Aw w a n cap f) :
  Calls prog 262 #[.pointer (some ⟨R,0,none⟩), .func (.func 263) #[] #[.pointer (some ⟨V,0,none⟩)]] w fun e w'=>Un w.heap.size w' R a n cap f e/\w.grownBy w' (some R):=by
 obtain⟨i27,K,E,F,G⟩:=info_parts Qj;have r:=Zz (Zq K (Zq E (Zq F G)));have HB:=Zz hb;have N:=Zz hR;have HV:=Zz (fun x (hg:w.grownBy x (some R))=>hg.cell (a:=⟨V,0,none⟩) hV (by simpa using ae));have hm:(Zah n f).n=BI n f (.AA p s):=by show BI n f (Bg n f 1 (.AA 0 0))=_;rw[C]
 have al:=Wb n f (.AA p s);have hE:NH n f=Uj n f (BI n f (.AA p s)) (st0 n f):=by unfold NH st;rw[hm]
 have h0:st0 n f=Bg n f 1 (.AA p s):=by unfold st0;rw[show 2=1+1 from rfl,Ei,C]
 have Y:=Zz (Zq hE (Zq h0 hm));clear K E F G hb hR hE h0 hm C
 go_enter func262,ntmps262
 go_wp2_with fail
 refine (Zc7 _ R a n cap f p hn hp h N.o HB.o).mono ?_;rintro e w1 ⟨⟨m,q,T,rfl,l⟩ | ⟨T,rfl,l⟩,ht⟩
 case inr =>
  have H:=Zz (Zq T ht.grown);clear T l ht h;go_wp2_with fail
  refine⟨rfl,Zj ⟨p,?_,rfl⟩,H.o.2⟩;rw[Y.o.1,Y.o.2.1];have:Bg n f 1 (.AA p s)= .bad p:=by simp only[Bg];exact Zcs H.o.1
  rw[this,MS]
 have hq:=Zcc T;have au:Bg n f 1 (.AA p s)= .AA q p:=by simp only[Bg];exact Zcb T
 have U:BI n f (.AA p s)=m:=Zca T;have O:=Zz (Zq (Y.o.2.1.trans au) U);have ax:=Zz ht.grown;have aw:=Zz l;rw[U] at al;clear T au U ht l h;go_wp2_with fail
 go_loopw [5,8] (fun lv iv wr=>∃(k:Nat) (W:Option Addr) (lc q s':Nat) (Na:Nat->Option Addr) (Nc:Nat->Nat),iv= .int .i64 k/\k<=m/\lv= .slice W k lc/\An w.heap.size wr (Zah n f) (.slice W k lc) k Na Nc/\st n f k= .AA q s'/\q<=n/\Cd wr R a n cap (q:Nat)/\w.grownBy wr (some R)) (fun _ iv _=>m - (intOf iv).toNat)
 case atStart=>exact⟨0,none,0,q,p,fun _=>none,fun _=>0,rfl,by omega,rfl,⟨World.ownsRow_nil _ _ _ _,fun i hi=>by omega⟩,O.o.1,hq.2.1,aw.o,ax.o⟩
 case round =>
  obtain⟨k,W,lc,g,s2,Na,Nc,rfl,hk,rfl,ag,av,ar,L,Q⟩:=hrel
  rename World=>w2
  have HO:=Zz ag;have P:=Zz av;have Z:=Zz L;have y:=Zz Q;have ay:w.heap.size<=w2.heap.size:=Q.size;clear ag av L Q;by_cases h1:k<m
  ·go_wp2_with fail
   refine (TE _ R V a n cap f g s2 (by omega) ae (HV.o _ y.o) hn ar Z.o N.o (HB.o.grown N.o y.o)).mono ?_;rintro e w3 ⟨hx,v⟩
   have D:st n f (k+1)=VX n f (.AA g s2):=by
    have:=P.o;unfold st at this ⊢;simp only[Uj];rw[this]
   have J:=Zz D;rcases hx with⟨q3,s3,na,nc,A,az,rfl,B,l⟩ | ⟨s3,A,rfl⟩
   case inr =>
    have H:=Zz (Zq A v);clear A v D;go_wp2_with fail
    refine⟨rfl,Zj ⟨s3,?_,rfl⟩,Za8 y.o H.o.2⟩;rw[Y.o.1,O.o.2];exact Tr (j:=k+1) (by have:=J.o;unfold st at this;rw[this];exact H.o.1) (by omega)
   have hr:st n f k= .AA g s2:=P.o;rw[<-hr] at B;have H:=Zz (Zq A (Zq B (Zq l v)));have bf:w2.heap.size<=w3.heap.size:=v.size;have X:Hid (An w.heap.size w3 (Zah n f) (.slice W k lc) k Na Nc):=Zz (HO.o.Vl v (by omega));have c:Hid (Zef (Zah n f) k na nc=[.int .i64 (BI n f (.AA g s2):Nat), .int .i64 (BI n f (Bg n f 1 (.AA g s2)):Nat), .int .i64 (BI n f (Bg n f 2 (.AA g s2)):Nat), .int .i64 (BI n f (Bg n f 3 (.AA g s2)):Nat), .int .i64 (BI n f (Bg n f 4 (.AA g s2)):Nat), .int .i64 (BI n f (Bg n f 5 (.AA g s2)):Nat), .slice na (BI n f (Bg n f 6 (.AA g s2))) nc]):=Zz (by rw[<-hr];rfl);clear A B l v D hr
   generalize BI n f (.AA g s2)=z0 at c ⊢
   generalize BI n f (Bg n f 1 (.AA g s2))=z1 at c ⊢
   generalize BI n f (Bg n f 2 (.AA g s2))=z2 at c ⊢
   generalize BI n f (Bg n f 3 (.AA g s2))=z3 at c ⊢
   generalize BI n f (Bg n f 4 (.AA g s2))=z4 at c ⊢
   generalize BI n f (Bg n f 5 (.AA g s2))=z5 at c ⊢
   generalize BI n f (Bg n f 6 (.AA g s2))=z6 at c ⊢
   have S:Hid (∀u∈[Value.int .i64 z0, .int .i64 z1, .int .i64 z2, .int .i64 z3, .int .i64 z4, .int .i64 z5, .slice na z6 nc],u.oneCell'=true):=Zz (by rw[<-c.o];exact Wq _ _ _ _);go_wp2_with (at_builtin;refine wpList_append_own _ rfl (.tmp 10) (.tmp 13) 59 rfl w.heap.size 130 i27 (.agg #[.int .i64 0, .int .i64 0, .int .i64 0, .int .i64 0, .int .i64 0, .int .i64 0, .slice none 0 0]) 7 72 underlying59 r.o.1 r.o.2.1 r.o.2.2.1 r.o.2.2.2 rfl (by decide) (.slice W k lc) k (Zbv (Zah n f) Na Nc k) rfl (X.o.own.alloc _) ⟨w3.heap.size,0,none⟩ 1 1 [.int .i64 z0, .int .i64 z1, .int .i64 z2, .int .i64 z3, .int .i64 z4, .int .i64 z5, .slice na z6 nc] rfl rfl (RK _ _ _ _ rfl) S.o (by unfold maxLen;omega) (by omega) (by simp;omega) ?_;intro v4 w4 d t aj;clear aj;rw[<-c.o] at d;obtain⟨xa,xc,rfl⟩:=Zaz d;have I:=Zz (Zq d t);clear d t)
   go_roundw
   case rel =>
    have M:∀z,(Value.slice W k lc).ownBlock=some z->w.heap.size<=z:=fun z hz=>(HO.o.own.lt z hz).1;refine⟨k+1,xa,xc,q3,s3,_,_,by go_num,by omega,rfl,X.o.more ((Zcr H.o.2.1 ay).alloc _) ((Zk _ _).alloc (Zx _) _) I.o.1 I.o.2,?_,az,?_,LK (Za8 y.o H.o.2.2.2) I.o.2 M⟩
    ·rw[J.o];exact H.o.1
    ·exact H.o.2.2.1.grown (by omega) I.o.2 (fun e=>by have:=M R e.symm;omega)
   case measure=>simp[intOf];omega
  ·obtain rfl:k=m:=by omega
   go_wp2_with fail
   go_ret
   have hN:(Zah n f).n=k:=Y.o.2.2.trans O.o.2;exact⟨Zu ⟨g,s2,W,lc,Na,Nc,by unfold NH;rw[hN];exact P.o,ar,(by rw[hN];rfl),by rw[hN];exact HO.o,Z.o⟩,y.o⟩
end
end Go.Proofs.YtgdcjccbdmcebaaGreatDoor
