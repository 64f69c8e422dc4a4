import Derived.Test.YtgdcjccbdmcebaaGreatDoorM15
import Derived.OwnWalk
set_option linter.unusedSimpArgs false
set_option linter.unusedVariables false
set_option maxHeartbeats 8000000
set_option maxRecDepth 100000
open Go.Proofs.Tryz
namespace Go.Proofs.YtgdcjccbdmcebaaGreatDoor
open Go.RowKit
variable {Na:Nat->Option Addr}{w:World}{F:Ad}{xs:List Value}
def Ri (F:Ad)(w w':World)(e:Ending):Prop :=
 (∃v,e= .returned (.tuple #[v, .nilIface])/\BL F 0 (-1)/\Al w.heap.size w' v (Zat F)) \/
 (∃(x y:Int) (q:Nat),e= .returned (.tuple #[.slice none 0 0, .iface 172 (.pointer (some ⟨q,0,none⟩))])/\x≠0/\BL F x y/\w.heap.size<=q/\q<w'.heap.size/\Ba w' q x y)
theorem chk0 {a:Int}(h:BL F 0 a):Cc F/\∀i,i<F.n->Cp F i:=by
 have hg:=h.AA
 have b:Cc F:=by
  rcases h with⟨h,_⟩ | ⟨h,_⟩ | ⟨h,_⟩ | ⟨h,_⟩ | ⟨_,_,b,_⟩
  ·exact absurd h (by decide)
  ·exact absurd h (by decide)
  ·exact absurd h (by decide)
  ·exact absurd h (by decide)
  ·exact b
 exact⟨b,fun i hi=>RI b (hg i hi).1 (hg i hi).2⟩
theorem Og (F:Ad)(B:Nat)(P:Option Addr)(lc:Nat)(Na:Nat->Option Addr)(Nc:Nat->Nat)(w:World)(hn:F.n<=maxLen)(hT:AL w)(hg:2<w.heap.size)
  (h:An B w F (.slice P F.n lc) F.n Na Nc) :
  Calls prog 144 #[Ex F.dl (.slice P F.n lc)] w fun e w'=>Ri F w w' e/\Below w.heap.size w w':=by
 have HC:=Zz h;have HT:=Zz hT;clear h hT
 go_enter func144,ntmps144
 have bo:=Zz (XN.start w F P lc);have I:Below w.heap.size w (w.alloc (.cells #[.int .i64 F.dl, .slice P F.n lc] 61)):=(Zk _ _).alloc (Zx _) _;go_wp2_with fail
 refine (Lv F B P lc Na Nc _ hn (HT.o.Aj hg I) (by simp;omega) (HC.o.below I)).mono ?_;rintro e w1 ⟨da,G⟩;have u:=Zz (bo.o.Aj ((F8.Ae G (Zx _)).mono (by simp)));clear I;rcases da with⟨rfl,d⟩ | ⟨x,y,q,rfl,hx,d,dh,dj,dc⟩
 case inr =>
  have HX:=Zz d;clear G d;go_wp2_with fail
  go_ret2
  exact⟨Zj ⟨x,y,q,rfl,hx,HX.o,by simp at dh;omega,dj,dc⟩,u.o.f.bl⟩
 have HX:=Zz d;obtain⟨⟨t1,t2,t3,t4⟩,bh⟩:=chk0 d;have aw:=Zz bh;clear G d bh
 obtain⟨g,rfl,dd⟩:∃g,P=some ⟨g,0,none⟩/\g<w.heap.size:=by
  rcases HC.o.own.2 with⟨_,h2⟩ | ⟨g,cap,cur,h2,_,hh,_⟩
  ·omega
  ·obtain⟨h7,_,h8⟩:P=some ⟨g,0,none⟩/\F.n=F.n/\lc=cap:=by simpa using h2
   obtain⟨de,_⟩:=Array.getElem?_eq_some_iff.1 hh;exact⟨g,h7,de⟩
 have au:Hid (∀i,i<F.n->Ds w F i g (i * 7) (Na i) (Nc i)):=Zz fun i hi=>by have:=HC.o.node i hi;rwa[Nat.zero_add] at this
 clear HC;have db:∃x:Nat,F.dl=x/\x<=1048576/\F.dl.toNat=x:=⟨F.dl.toNat,by omega,by omega,rfl⟩;obtain⟨xd,dr,ey,bj⟩:=db;have fm:=Zax (n:=xd) (by omega);have fq:=Zax (n:=F.n) (by omega);have d0:=Zad u.o.b 0;have d1:=Zad u.o.b 1;have dp:=u.o.lt;rw[dr] at d0;go_wp2_with fail
 refine (NN w.heap.size _ [] xd F.n _ (by omega) (by omega) (by simp) (by omega) (Al.nil _ _)).mono ?_;rintro e w2 ⟨v2,rfl,c,hf⟩;have ck:Hid (Al w.heap.size w2 v2 ((Bo xd++Bo F.n)++CL F 0)):=Zz (by simpa[CL] using c);have R:=Zz (u.o.Aj hf);clear c hf d0 d1 dp;have d1:=Zad R.o.b 1;go_wp2_with fail
 clear d1
 go_loopw [5,25] (fun vv iv wr=>∃k:Nat,iv= .int .i64 k/\k<=F.n/\Al w.heap.size wr vv ((Bo xd++Bo F.n)++CL F k)/\XN w wr F (some ⟨g,0,none⟩) lc) (fun _ iv _=>F.n - (intOf iv).toNat)
 case atStart=>exact⟨0,rfl,by omega,ck.o,R.o⟩
 case round =>
  obtain⟨k,rfl,hk,E,D⟩:=hrel
  rename World=>t
  have b9:=Zz E;have z:=Zz D;have ft:=z.o.lt;have fs:=Kl (F:=F) (k:=k) fun i hi=>aw.o i (by omega)
  clear E D;by_cases h1:k<F.n
  ·have a:=aw.o k h1
   obtain⟨x0,J,gi,du⟩:∃x:Nat,F.bu k=x/\x<=1048576/\(F.bu k).toNat=x:=⟨(F.bu k).toNat,a.bu.1,a.bu.2,rfl⟩;have ez:=Zax (n:=x0) (by omega);obtain⟨x1,K,gm,dw⟩:∃x:Nat,F.cl k=x/\x<=1048576/\(F.cl k).toNat=x:=⟨(F.cl k).toNat,a.cl.1,a.cl.2,rfl⟩;have fc:=Zax (n:=x1) (by omega);obtain⟨x2,L,gq,dy⟩:∃x:Nat,F.be k=x/\x<=1048576/\(F.be k).toNat=x:=⟨(F.be k).toNat,a.be.1,a.be.2,rfl⟩;have fe:=Zax (n:=x2) (by omega);obtain⟨x3,M,gu,ee⟩:∃x:Nat,F.ba k=x/\x<=1048576/\(F.ba k).toNat=x:=⟨(F.ba k).toNat,a.ba.1,a.ba.2,rfl⟩;have fg:=Zax (n:=x3) (by omega);obtain⟨x4,N,gv,eg⟩:∃x:Nat,F.ca k=x/\x<=1048576/\(F.ca k).toNat=x:=⟨(F.ca k).toNat,a.ca.1,a.ca.2,rfl⟩;have fh:=Zax (n:=x4) (by omega);obtain⟨x5,O,gw,ei⟩:∃x:Nat,F.ji k=x/\x<=1048576/\(F.ji k).toNat=x:=⟨(F.ji k).toNat,a.ji.1,a.ji.2,rfl⟩;have fi:=Zax (n:=x5) (by omega);have eo:=a.an;have fj:=Zax (n:=F.an k) (by omega);obtain⟨n0,n1,n2,n3,n4,n5,n6,ni⟩:=(au.o k h1).Aj dd z.o.f.bl;have bw:=Zz ((au.o k h1).ints);have av:=Zz a;clear a ni;rw[J] at n0;rw[K] at n1;rw[L] at n2;rw[M] at n3;rw[N] at n4;rw[O] at n5
   have br:Hid (DW (t.alloc (.cells #[.int .i64 x0, .int .i64 x1, .int .i64 x2, .int .i64 x3, .int .i64 x4, .int .i64 x5, .slice (Na k) (F.an k) (Nc k)] 130)) t.heap.size F k (Na k) (Nc k)):=Zz (by
    unfold DW Zef;rw[J,K,L,M,N,O];exact heap_alloc_new _ _)
   have bp:Hid (∀ob,F8 w.heap.size t (t.alloc ob)):=Zz fun ob=>(F8.refl _ _).alloc (by omega) _
   have bf:Hid (∀ob,Al w.heap.size (t.alloc ob) _ _):=Zz fun ob=>b9.o.below ((Zk _ _).alloc (Zx _) _);go_wp2_with fail
   refine (FO t.heap.size _).mono ?_;rintro e w4 ⟨rfl,H⟩;have hf:=F8.Ae H (B:=w.heap.size) (by simp;omega);have cm:=Zz ((bf.o _).below H);have S:=Zz ((z.o.Aj (bp.o _)).Aj hf);have Z:=Zz (br.o.Aj hf);have fv:=S.o.lt;obtain⟨q0,q1,j,l,p,r,s⟩:=Z.o.cells;rw[J] at q0;clear H hf n0 n1 n2 n3 n4 n5 n6 q1 j l p r s;have i0:=six0 t.heap.size;have i1:=six1 t.heap.size;have i2:=six2 t.heap.size;have i3:=six3 t.heap.size;have i4:=six4 t.heap.size;have i5:=six5 t.heap.size
   generalize KL t.heap.size=pv at i0 i1 i2 i3 i4 i5
   go_wp2_with fail
   refine wp_loop_rounds 7 ?_;rw[rounds_succ];go_wp2_with fail
   refine (Zcj w.heap.size _ _ x0 _ (by omega) (by simp only[ZX];omega) (by omega) cm.o).mono ?_;rintro e w5 ⟨v5,rfl,c,hf⟩;have cq:=Zz c;have T:=Zz (S.o.Aj hf);have ae:=Zz (Z.o.Aj hf);have fw:=T.o.lt;clear c hf q0;obtain⟨q0,q1,j,l,p,r,s⟩:=ae.o.cells;rw[K] at q1;clear q0 j l p r s;go_wp2_with fail
   rw[rounds_succ];go_wp2_with fail
   refine (Zcj w.heap.size _ _ x1 _ (by omega) (by simp only[ZX];omega) (by omega) cq.o).mono ?_;rintro e w6 ⟨v6,rfl,c,hf⟩;have cr:=Zz c;have U:=Zz (T.o.Aj hf);have ag:=Zz (ae.o.Aj hf);have fy:=U.o.lt;clear c hf q1;obtain⟨q0,q1,j,l,p,r,s⟩:=ag.o.cells;rw[L] at j;clear q0 q1 l p r s;go_wp2_with fail
   rw[rounds_succ];go_wp2_with fail
   refine (Zcj w.heap.size _ _ x2 _ (by omega) (by simp only[ZX];omega) (by omega) cr.o).mono ?_;rintro e w7 ⟨v7,rfl,c,hf⟩;have ct:=Zz c;have V:=Zz (U.o.Aj hf);have aj:=Zz (ag.o.Aj hf);have gb:=V.o.lt;clear c hf j;obtain⟨q0,q1,j,l,p,r,s⟩:=aj.o.cells;rw[M] at l;clear q0 q1 j p r s;go_wp2_with fail
   rw[rounds_succ];go_wp2_with fail
   refine (Zcj w.heap.size _ _ x3 _ (by omega) (by simp only[ZX];omega) (by omega) ct.o).mono ?_;rintro e w8 ⟨v8,rfl,c,hf⟩;have cu:=Zz c;have W:=Zz (V.o.Aj hf);have al:=Zz (aj.o.Aj hf);have gd:=W.o.lt;clear c hf l;obtain⟨q0,q1,j,l,p,r,s⟩:=al.o.cells;rw[N] at p;clear q0 q1 j l r s;go_wp2_with fail
   rw[rounds_succ];go_wp2_with fail
   refine (Zcj w.heap.size _ _ x4 _ (by omega) (by simp only[ZX];omega) (by omega) cu.o).mono ?_;rintro e w9 ⟨v9,rfl,c,hf⟩;have cy:=Zz c;have X:=Zz (W.o.Aj hf);have ar:=Zz (al.o.Aj hf);have gh:=X.o.lt;clear c hf p;obtain⟨q0,q1,j,l,p,r,s⟩:=ar.o.cells;rw[O] at r;clear q0 q1 j l p s;go_wp2_with fail
   rw[rounds_succ];go_wp2_with fail
   refine (Zcj w.heap.size _ _ x5 _ (by omega) (by simp only[ZX];omega) (by omega) cy.o).mono ?_;rintro e gx ⟨v10,rfl,c,hf⟩;have ax:=Zz c;have A:=Zz (X.o.Aj hf);have C:=Zz (ar.o.Aj hf);have ep:=A.o.lt;clear c hf r;obtain⟨q0,q1,j,l,p,r,s⟩:=C.o.cells;clear q0 q1 j l p r;go_wp2_with fail
   rw[rounds_succ];go_wp2_with fail
   refine (Zcj w.heap.size _ _ (F.an k) _ (by omega) (by simp only[ZX];omega) (by omega) ax.o).mono ?_;rintro e Iu ⟨v11,rfl,c,hf⟩;have ay:=Zz c;have v:=Zz (A.o.Aj hf);have Y:=Zz (C.o.Aj hf);have eu:=v.o.lt;clear c hf s;obtain⟨q0,q1,j,l,p,r,s⟩:=Y.o.cells;clear q0 q1 j l p r;go_wp2_with fail
   refine (FX w.heap.size _ _ (fun m=>(F.af k m).toNat) (F.af k) _ _ _ _ (fun m hm=>(av.o.af m hm).1) (fun m hm=>by have:=(av.o.af m hm).2;omega) (by omega) (by simp only[ZX];omega) (by omega) ay.o (fun w' hf=>bw.o.Aj (v.o.f.bl.trans hf.bl))).mono ?_;rintro e gy ⟨v12,rfl,c,hf⟩;have az:=Zz c;have Q:=Zz (v.o.Aj hf);clear c hf s;go_wp2_with fail
   go_roundw
   case rel =>
    refine⟨k+1,by go_num,by omega,?_,Q.o⟩;have:=az.o;simp only[CL,Kk,du,dw,dy,ee,eg,ei];simp only[List.append_assoc] at this ⊢;exact this
   case measure=>simp[intOf];omega
  ·obtain rfl:k=F.n:=by omega
   go_wp2_with fail
   go_ret2
   exact⟨Zu ⟨_,rfl,HX.o,by rw[Zat,bj];exact b9.o⟩,z.o.f.bl⟩
def Sp (w wx:World)(F:Ad)(g:Nat)(Na:Nat->Option Addr):Prop :=
 ∀z,z<w.heap.size->z≠g->(∀i,i<F.n->F.an i≠0->Na i≠some ⟨z,0,none⟩)->wx.heap[z]? =w.heap[z]?
theorem Sp.alloc (w:World)(o:Obj)(F:Ad)(g:Nat)(Na:Nat->Option Addr):Sp w (w.alloc o) F g Na:=fun z a _ _=>((Zk _ w).alloc (Zx _) o).block z a
theorem Sp.Ey {wx:World}{g:Nat}(h:Sp w wx F g Na)(o:Nat)(v:Value):Sp w (wx.setCell ⟨g,o,none⟩ v) F g Na:=fun z a hg hn =>
 (Zl wx ⟨g,o,none⟩ v z hg).trans (h z a hg hn)
theorem Sp.setA {wx:World}{g:Nat}(h:Sp w wx F g Na){k ab:Nat}(b:k<F.n)(hm:F.an k≠0)(a:Na k=some ⟨ab,0,none⟩)(o:Nat)(v:Value):Sp w (wx.setCell ⟨ab,o,none⟩ v) F g Na:=fun z c hg hn =>
 (Zl wx ⟨ab,o,none⟩ v z (fun e=>hn k b hm (by rw[a,e]))).trans (h z c hg hn)
theorem Ra (F:Ad)(B g cap:Nat)(Na:Nat->Option Addr)(s:Nat->Nat)(w:World)(U:B<=w.heap.size)(t:F.n<=maxLen)(P:BH B w F g 0 Na s)(c:g<w.heap.size) :
  Calls prog 65 #[Ex F.dl (.slice (some ⟨g,0,none⟩) F.n cap)] w fun e w'=>e= .returned (.tuple #[])/\Below B w w'/\Sp w w' F g Na:=by
 unfold maxLen at t;have M:=Zz P;clear P
 go_enter func65,ntmps65
 go_wp2_with fail
 go_loopw [7] (fun K wx=>∃k:Nat,k<=F.n/\K= .int .i64 k/\BH B wx F g k Na s/\wx.cell? ⟨w.heap.size,1,none⟩=some (.slice (some ⟨g,0,none⟩) F.n cap)/\w.heap.size<wx.heap.size/\Below B w wx/\Sp w wx F g Na) (fun K _=>F.n - (intOf K).toNat)
 case atStart=>exact⟨0,by omega,rfl,M.o.below rfl ((Zk _ _).alloc (Zx _) _),by simp,by simp,(Zk _ _).alloc U _,Sp.alloc _ _ _ _ _⟩
 case round =>
  obtain⟨k,Z,rfl,y,c1,h,b,f⟩:=hrel;have q:=Zz f;clear f
  rename World=>w1
  have r:=Zz y;clear y;by_cases d:k<F.n
  ·have n6:=r.o.af k (Zx _) d
   go_wp2_with fail
   go_loopw [17] (fun L wx=>∃m:Nat,m<=F.an k/\L= .int .i64 m/\BH B wx F g k Na s/\wx.cell? ⟨w.heap.size,1,none⟩=some (.slice (some ⟨g,0,none⟩) F.n cap)/\w.heap.size<wx.heap.size/\Below B w wx/\Sp w wx F g Na) (fun L _=>F.an k - (intOf L).toNat)
   case atStart=>exact⟨0,by omega,rfl,r.o,c1,h,b,q.o⟩
   case round =>
    clear n6 c1 h b;obtain⟨m,hm,rfl,a,c1,h,b,f⟩:=hrel;have i:=Zz f;clear f
    rename World=>j
    have n6:=a.af k (Zx _) d;by_cases E:m<F.an k
    ·obtain⟨ab,C,G,H,V,I,p⟩:=(a.it k d).resolve_left (by omega)
     obtain⟨D,l,_,_,_,_,O⟩:=(M.o.it k d).resolve_left (by omega);obtain rfl:ab=D:=by rw[C] at l;simpa using l
     obtain⟨uw,z⟩:=Option.isSome_iff_exists.1 (O m E).1;have J:=World.block_lt_of_cell? _ _ z;simp only at J;obtain⟨u,hu⟩:=Option.isSome_iff_exists.1 (p m E).1;have Y:=(p m E).2;rw[C] at n6;unfold maxLen at I
     have x:Hid (∀v,BH B (j.setCell ⟨ab,m,none⟩ v) F g k Na s/\(j.setCell ⟨ab,m,none⟩ v).cell? ⟨w.heap.size,1,none⟩=some (.slice (some ⟨g,0,none⟩) F.n cap)/\w.heap.size<(j.setCell ⟨ab,m,none⟩ v).heap.size/\Below B w (j.setCell ⟨ab,m,none⟩ v)/\Sp w (j.setCell ⟨ab,m,none⟩ v) F g Na):=Zz fun v =>
      ⟨a.set H v,(World.cell?_of_block (w:=j) (Zl j ⟨ab,m,none⟩ v w.heap.size (by simp;omega))).trans c1,by simpa[World.setCell] using h,b.setCell G v,i.o.setA d (by omega) C m v⟩
     clear C l O z a p b;go_wp2_with fail
     go_roundw
     case rel=>exact⟨m+1,by omega,by go_num,x.o _⟩
     case measure=>simp[intOf];omega
    ·obtain rfl:m=F.an k:=by omega
     obtain⟨q0,W⟩:=a.wr k d 0 (by omega);obtain⟨q1,p1⟩:=a.wr k d 1 (by omega);obtain⟨Q,p2⟩:=a.wr k d 2 (by omega);obtain⟨R,p3⟩:=a.wr k d 3 (by omega);obtain⟨S,p4⟩:=a.wr k d 4 (by omega);obtain⟨T,p5⟩:=a.wr k d 5 (by omega);obtain⟨x0,X⟩:=Option.isSome_iff_exists.1 q0;obtain⟨x1,y1⟩:=Option.isSome_iff_exists.1 q1;obtain⟨x2,y2⟩:=Option.isSome_iff_exists.1 Q;obtain⟨x3,y3⟩:=Option.isSome_iff_exists.1 R;obtain⟨x4,y4⟩:=Option.isSome_iff_exists.1 S;obtain⟨x5,y5⟩:=Option.isSome_iff_exists.1 T;obtain⟨_,p6⟩:=a.wr k d 6 (by omega);simp only[Nat.add_zero] at X W;have N:NL B w j F g cap k Na s:=⟨a,c1,h,b⟩;have A:=Zz (((((((N.node (k':=k+1) c k (k * 7) (by omega) (by omega) (by omega) (.int .i64 0)).node (k':=k+1) c k (k * 7+1) (by omega) (by omega) (by omega) (.int .i64 0)).node (k':=k+1) c k (k * 7+2) (by omega) (by omega) (by omega) (.int .i64 0)).node (k':=k+1) c k (k * 7+3) (by omega) (by omega) (by omega) (.int .i64 0)).node (k':=k+1) c k (k * 7+4) (by omega) (by omega) (by omega) (.int .i64 0)).node (k':=k+1) c k (k * 7+5) (by omega) (by omega) (by omega) (.int .i64 0)).node (k':=k+1) c k (k * 7+6) (by omega) (by omega) (by omega) (.slice none 0 0));clear a b N q0 q1 Q R S T;go_wp2_with fail
     go_roundw
     case rel=>exact⟨k+1,by omega,by go_num,A.o.at',A.o.c1,A.o.sz,A.o.bl,(((((((i.o.Ey _ _).Ey _ _).Ey _ _).Ey _ _).Ey _ _).Ey _ _).Ey _ _)⟩
     case measure=>simp[intOf];omega
  ·go_wp2_with fail
   go_end0
   exact⟨rfl,b,q.o⟩
theorem Mj (F:Ad)(B:Nat)(f:Option Addr)(lc:Nat)(Na:Nat->Option Addr)(j:Nat->Nat)(c w:World)(y:B<=c.heap.size)(hn:F.n<=maxLen)(h:An B c F (.slice f F.n lc) F.n Na j)(a:Below c.heap.size c w) :
  Calls prog 65 #[Ex F.dl (.slice f F.n lc)] w fun e w'=>e= .returned (.tuple #[])/\Below B w w'/\∀z,c.heap.size<=z->z<w.heap.size->w'.heap[z]? =w.heap[z]? :=by
 by_cases u:F.n=0
 ·refine (Mk F f lc w u).mono ?_
  rintro e w' ⟨rfl,d⟩;exact⟨rfl,d.mono (Zv y a.size),fun z _ E=>d.block z E⟩
 ·have v:=h.below a
  rcases h.own.2 with⟨_,k⟩ | ⟨g,cap,cur,k,A,hh,_⟩
  ·exact absurd k u
  ·obtain⟨m,_,x⟩:f=some ⟨g,0,none⟩/\F.n=F.n/\lc=cap:=by simpa using k
   subst m x;have C:=h.lt.2;have H:=a.size;refine (Ra F B g lc Na j w (by omega) hn v.turn v.lt.2).mono ?_;rintro e w' ⟨rfl,d,q⟩;refine⟨rfl,d,fun z G r=>q z r (by omega) fun i hi o e=> ?_⟩;rcases (h.ID i hi).2 with⟨_,l⟩ | ⟨t,b,s,l,_,p,_⟩
   ·exact o l
   ·obtain⟨m,_,_⟩:Na i=some ⟨t,0,none⟩/\F.an i=F.an i/\j i=b:=by simpa using l
    rw[m] at e;obtain rfl:t=z:=by simpa using e
    obtain⟨D,_⟩:=Array.getElem?_eq_some_iff.1 p;omega
theorem Im {w':World}{N:Nat}{e:TypeId}{size n:Nat}{v:Value}(h:w.ownsRow N e size v n xs)(d:∀z,N<=z->z<w.heap.size->w'.heap[z]? =w.heap[z]?):w'.ownsRow N e size v n xs:=by
 obtain⟨c,a⟩:=h;refine⟨c,?_⟩;rcases a with a | ⟨g,cap,cur,rfl,hg,hh,f⟩
 ·exact Zu a
 ·obtain⟨b,_⟩:=Array.getElem?_eq_some_iff.1 hh
  exact Zj ⟨g,cap,cur,rfl,hg,(d g hg b).trans hh,f⟩
theorem Ba.spare {w':World}{N q:Nat}{x y:Int}(h:Ba w q x y)(d:N<=q)(b:q<w.heap.size)(c:∀z,N<=z->z<w.heap.size->w'.heap[z]? =w.heap[z]?):Ba w' q x y :=
 ⟨(World.cell?_of_block (a:=⟨q,0,none⟩) (c q d b)).trans h.1,(World.cell?_of_block (a:=⟨q,1,none⟩) (c q d b)).trans h.2⟩
theorem MB (F:Ad)(B:Nat)(k:Option Addr)(lc:Nat)(Na:Nat->Option Addr)(m:Nat->Nat)(w:World)(hn:F.n<=maxLen)(p:AL w)(hg:2<w.heap.size)
  (h:An B w F (.slice k F.n lc) F.n Na m) :
  Calls prog 100 #[Ex F.dl (.slice k F.n lc)] w fun e w'=>Ri F w w' e/\Below w.heap.size w w':=by
 have c:Hid (∀o,Below w.heap.size w (w.alloc o)):=Zz fun o=>(Zk _ _).alloc (Zx _) _;have H:=Zz h;have s:=Zz p;clear h p
 go_enter func100,ntmps100
 go_wp2_with fail
 refine (Og F B k lc Na m _ hn (s.o.Aj hg (c.o _)) (by simp;omega) (H.o.below (c.o _))).mono ?_;rintro e w' ⟨j,r⟩;have l:Below w.heap.size w w':=(c.o _).trans (r.mono (by simp));clear r;rcases j with⟨v,rfl,a,b⟩ | ⟨x,y,q,rfl,j,a,g,i,f⟩
 ·have d:=Zz (Zq a b)
  clear a b;go_wp2_with fail
  go_ret2
  exact⟨Zu ⟨v,rfl,d.o.1,Zcr d.o.2 (by simp)⟩,l⟩
 ·have d:=Zz a
  clear a;go_wp2_with fail
  go_ret2
  exact⟨Zj ⟨x,y,q,rfl,j,d.o,by simp at g;omega,i,f⟩,l⟩
def EncIs (F:Ad)(N:Nat)(w':World)(e:Ending):Prop :=
 ∃(v:Value) (x y:Int) (l:List Int),e= .returned (.tuple #[v, .int .i64 x, .int .i64 y])/\BL F x y/\Al N w' v l/\(x=0->l=Zat F)/\(x≠0->l=[]/\v= .slice none 0 0)
theorem IY (F:Ad)(a:Option Addr)(cap:Nat)(O:Nat->Option Addr)(P:Nat->Nat)(w:World)(h:EA w F a cap O P)(Q:Az w) :
  Calls prog 59 #[Ex F.dl (.slice a F.n cap)] w fun e w'=>EncIs F w.heap.size w' e/\Below w.heap.size w w':=by
 have z:Hid (∀o,Below w.heap.size w (w.alloc o)):=Zz fun o=>(Zk _ _).alloc (Zx _) _;have H:=Zz h;have U:=Zz Q;clear h Q
 go_enter func59,ntmps59
 go_wp2_with fail
 refine (JI F a cap O P _ (H.o.Aj (z.o _))).mono ?_;rintro e g ⟨A,lc,Na,G,rfl,R,I⟩;have p:Hid (Below w.heap.size w g):=Zz ((z.o _).trans (I.mono (by simp)));have S:w.heap.size+1<=g.heap.size:=by have:=I.size;simpa using this
 have D:=Zz R;clear R I;go_wp2_with fail
 have f:Below g.heap.size g (g.alloc (.cells #[.int .i64 F.dl, .slice A F.n lc] 61)):=(Zk _ _).alloc (Zx _) _;refine (MB F _ A lc Na G _ H.o.len ((H.o.Je.Aj H.o.Pq p.o).Aj (by have:=H.o.Pq;omega) f) (by have:=H.o.Pq;simp;omega) (D.o.below f)).mono ?_;rintro e r ⟨M,l⟩;have c:Hid (Below g.heap.size g r):=Zz (f.trans (l.mono (by simp)));have d0:r.cell? ⟨g.heap.size,0,none⟩=some (.int .i64 F.dl):=cell_later l (by simp);have d1:r.cell? ⟨g.heap.size,1,none⟩=some (.slice A F.n lc):=cell_later l (by simp);have T:g.heap.size<=r.heap.size:=c.o.size;clear l f;rcases M with⟨v,rfl,d,m⟩ | ⟨x,y,q,rfl,M,d,J,K,t⟩
 ·have B:=Zz (Zq d m)
  clear d m;go_wp2_with fail
  refine (Mj F _ A lc Na G g r (by simp;omega) H.o.len D.o c.o).mono ?_;rintro e s ⟨rfl,i,k⟩;have b:Hid (Below w.heap.size w s):=Zz ((p.o.trans (c.o.mono (by omega))).trans (i.mono (by simp)));have V:Hid (Al g.heap.size s v (Zat F)):=Zz (Im (Zcr B.o.2 (by simp)) k);clear i k d0 d1;go_wp2_with fail
  refine (KS _).mono ?_;rintro e w4 ⟨rfl,j⟩;have C:Below w.heap.size w w4:=b.o.trans (j.mono b.o.size);have E:=Zz (Zcr (V.o.below j) (B':=w.heap.size) (by omega));clear j;go_wp2_with fail
  go_ret3
  exact⟨⟨v,0,-1,Zat F,rfl,B.o.1,E.o,fun _=>rfl,fun h=>absurd rfl h⟩,C⟩
 ·have B:=Zz d
  clear d;go_wp2_with fail
  refine (Mj F _ A lc Na G g r (by simp;omega) H.o.len D.o c.o).mono ?_;rintro e s ⟨rfl,i,k⟩;have b:Hid (Below w.heap.size w s):=Zz ((p.o.trans (c.o.mono (by omega))).trans (i.mono (by simp)));have u:Ba s q x y:=t.spare (N:=g.heap.size) (by simp at J;omega) K k;have L:q<s.heap.size:=by have:=i.size;omega
  clear i k d0 d1 t;go_wp2_with fail
  refine (KR q x y _ u L (U.o.Aj b.o)).mono ?_;rintro e w4 ⟨rfl,j⟩;have C:Below w.heap.size w w4:=b.o.trans (j.mono b.o.size);clear j;go_wp2_with fail
  go_ret3
  exact⟨⟨.slice none 0 0,x,y,[],rfl,B.o,Al.nil _ _,fun h=>absurd h M,fun _=>⟨rfl,rfl⟩⟩,C⟩
end Go.Proofs.YtgdcjccbdmcebaaGreatDoor
