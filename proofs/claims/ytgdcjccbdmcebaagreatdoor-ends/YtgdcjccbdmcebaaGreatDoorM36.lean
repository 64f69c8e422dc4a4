import Derived.Test.YtgdcjccbdmcebaaGreatDoorM35
set_option linter.unusedSimpArgs false
set_option linter.unusedVariables false
set_option maxHeartbeats 8000000
set_option maxRecDepth 100000
open Go.Proofs.Tryz
namespace Go.Proofs.YtgdcjccbdmcebaaGreatDoor
open Go.RowKit
attribute [local go_sem ↓] Go.wp_at_zero Go.wp_at_succ
variable {w:World}{v:Value}{lb eb P:Nat}{d:Ay}
theorem Fm (v:Int):AH v= .nilIface\/∃t x,AH v= .iface t x:=by
 by_cases h:v=0
 ·subst h;exact Zu Zaw
 ·exact Zj ⟨_,_,Zan h⟩
structure Dv (w:World)(lb eb P:Nat)(v:Value):Prop where
 l:w.heap[lb]? =some (.cells #[.pointer (some ⟨P,0,none⟩)] 372 (0,0))
 e:w.heap[eb]? =some (.cells #[v] 98 (0,0))
theorem Dv.cells (h:Dv w lb eb P v):w.cell? ⟨lb,0,none⟩=some (.pointer (some ⟨P,0,none⟩))/\w.cell? ⟨eb,0,none⟩=some v/\w.frozen? ⟨eb,0,none⟩=false:=⟨Zaj h.l 0,Zaj h.e 0,by simp[World.frozen?,h.e]⟩
theorem Dv.at_ {w':World}(h:Dv w lb eb P v)(a:w'.heap[lb]? =w.heap[lb]?)(b:w'.heap[eb]? =w.heap[eb]?):Dv w' lb eb P v:=⟨a.trans h.l,b.trans h.e⟩
theorem Dv.set (h:Dv w lb eb P v)(x:Value):Dv (w.setCell ⟨eb,0,none⟩ x) lb eb P x:=⟨(Zl w ⟨eb,0,none⟩ x lb (Zai h.l h.e (by decide))).trans h.l,by rw[Zab h.e];rfl⟩
theorem Av.Ir {R D bd bn:Nat}(h:Av w R D bd bn d)(g:Dv w lb eb P v)(x:Value):Av (w.setCell ⟨eb,0,none⟩ x) R D bd bn d:=by
 obtain⟨s,u,q1,y⟩:=h.c;obtain⟨q,o⟩:=h.fd;obtain⟨r,p⟩:=h.fn;have a:∀k,k≠eb->(w.setCell ⟨eb,0,none⟩ x).heap[k]? =w.heap[k]? :=fun k l=>Zl w ⟨eb,0,none⟩ x k l
 have hm:∀b f i,AB w b f i->b≠eb:=fun b f i n e=>by
  obtain⟨es,c,j,_⟩:=n.own;rw[e,g.e] at j;cases j
 exact h.Aj (by simp[World.setCell]) (a D (Zai q1.Au g.e (by decide))) (a bd (hm _ _ _ o)) (a bn (hm _ _ _ p)) (fun k cs t fr e m=>a k (Zai e g.e (by rcases m with rfl | rfl<;>decide)))
theorem LF.WU {x:World}{R D bd bn:Nat}(h:LF w x P R D bd bn)(eb:Nat)(v:Value)(m:w.heap.size<=eb)(c:eb≠P):LF w (x.setCell ⟨eb,0,none⟩ v) P R D bd bn:=by
 have b:∀k,k≠eb->(x.setCell ⟨eb,0,none⟩ v).heap[k]? =x.heap[k]? :=fun k e=>Zl x ⟨eb,0,none⟩ _ k e;exact⟨h.os,h.tape,h.output,by simpa[World.setCell] using h.size,fun k e f g i j l=>(b k (by omega)).trans (h.block k e f g i j l),fun o n=>(World.cell?_of_block (a:=⟨P,o,none⟩) (b P (Ne.symm c))).trans (h.off o n),fun o=>(World.frozen?_of_block (a:=⟨P,o,none⟩) (b P (Ne.symm c))).trans (h.AE o)⟩
theorem Vz {w7:World}{R D bd bn:Nat}{g:AS}{x:Value}{v:Int}(l:Av w7 R D bd bn d)(m:Bp w7 P D g)(j:Dv w7 lb eb P x)(n:LF w w7 P R D bd bn)(hn:LNe P R D bd bn)(i:lb≠P)(c:eb≠P)(h:w.heap.size<=eb) :
  CallsD prog 223 #[.pointer (some ⟨eb,0,none⟩), .pointer (some ⟨lb,0,none⟩)] .returning (w7.setCell ⟨eb,0,none⟩ (AH v)) fun e k w'=>k= .returning/\(e= .returned (.tuple #[])/\w'.cell? ⟨eb,0,none⟩=some (AH v)/\Bp w' P D { g with err:=v }/\Av w' R D bd bn d/\LF w w' P R D bd bn):=by
 have b:=j.set (AH v);have a:=m.at_ (Zl w7 ⟨eb,0,none⟩ (AH v) P (Ne.symm c));refine (Kd _ P eb lb (AH v) b.cells.1 b.cells.2.1 (Fm v) ⟨_,a.c3⟩ (a.fz 3)).mono ?_;rintro e k o ⟨rfl,rfl,rfl⟩;have f:=b.at_ (Zl (w7.setCell ⟨eb,0,none⟩ (AH v)) ⟨P,3,none⟩ (AH v) lb i) (Zl (w7.setCell ⟨eb,0,none⟩ (AH v)) ⟨P,3,none⟩ (AH v) eb c);exact⟨rfl,rfl,f.cells.2.1,a.Ir v,(l.Ir j _).Bt hn 3 _ a.c1,(LF.WU n eb _ h c).trans (LF.Bt _ P R D bd bn 3 _ (by omega))⟩
theorem ZV {o:Jp}(h:d.BW o=0):(d.told o).CJ=d.CJ/\(d.told o).Ap=d.Ap++[o]:=by
 have hw:d.Bx=0:=by
  by_cases c:d.Bx=0
  ·exact c
  ·unfold Ay.BW at h;rw[if_pos c] at h;exact absurd h c
 unfold Ay.told;rw[if_neg (by rw[hw];decide),if_neg (by rw[h];decide)];exact⟨(Zay d).1,rfl⟩
theorem Vy (w:World)(P R D bd bn B0 rg rc M:Nat)(g:AS)(d:Ay)(l:List Int)(hL:Bp w P D g)(hD:Av w R D bd bn d)(hn:LNe P R D bd bn)(hP:P<w.heap.size)(fg:d.Ap.length<8)(bp:g.at_<3)(dd:g.short<=100000)(I:Za4 w)(hr:Al B0 w (.slice (some ⟨rg,0,none⟩) l.length rc) l)(hl:BB l)(db:1<=l.length)(hlen:l.length<=1000000)
  (ae:Hr d.CJ M) (ag:Hr d.now M) (aj:∀o∈d.Ap,o.data.length<=M) (hM:M<=1000000000000) (hM2:2000000<=M) :
  Calls prog 150 #[.pointer (some ⟨P,0,none⟩), .slice (some ⟨rg,0,none⟩) l.length rc] w fun x w'=>x= .returned (AH (Ea g d l))/\Bp w' P D (FH g d l)/\Av w' R D bd bn (CO g d l)/\LF w w' P R D bd bn:=by
 have ig:∀(fn:Fn) (first cap:Array Value) (w:World),(Instr.makeFunc fn first cap).run prog w= .ok (.func fn first cap) w:=fun _ _ _ _=>rfl;obtain⟨n,E⟩:∃n,n=l.length:=⟨_,rfl⟩;obtain⟨w0,al⟩:∃w0,w0=(w.alloc (.cells #[.pointer (some ⟨P,0,none⟩)] 372)).alloc (.cells #[.nilIface] 98):=⟨_,rfl⟩;obtain⟨lb,Z⟩:∃lb,lb=w.heap.size:=⟨_,rfl⟩;obtain⟨eb,bw⟩:∃eb,eb=lb+1:=⟨_,rfl⟩;have av:Below w.heap.size w w0:=by rw[al];exact ((Zk _ _).alloc (Zx _) _).alloc (by simp) _
 have au:Dv w0 lb eb P .nilIface:=⟨by rw[al,Zao _ _ _ (by rw[Z];simp),Z];exact heap_alloc_new w _,by rw[al,bw,Z];exact Zbk _ _ _ _ (by simp)⟩;have U:=hL.at_ (av.block P hP);have bh:=hD.below av;have dc:lb≠P:=by omega
 have m:eb≠P:=by omega
 have X:=Zz (VI w0 P D g U);have u:=Zz (Zq Z (Zq bw (Zq al av)));obtain⟨y0,y1,y2⟩:=au.cells;have ey:=U.c3;have fc:=U.fz 3;by_cases hE:g.err=0
 ·have HR:=Zz (Zq U (Zq bh au))
  have q:=Zz (Zq hn (Zq hr (Zq hl (Zq ae (Zq ag (Zq aj (Zq I (Zq E (Zq hL (Zq hD hE))))))))));rw[hE] at X;rw[<-E] at db hlen ⊢;have dr:Hid (Calls prog 222 #[.pointer (some ⟨P,0,none⟩)] w0 fun x w'=>x= .returned .nilIface/\w'=w0):=Zz (by have:=X.o;rw[Zaw] at this;exact this);clear hL hD U bh au hn hr ae ag aj al Z bw av I hE X ey fc E hl
  go_enter_defers func150,ntmps150
  go_upto_region 1 with fail
  rw[<-u.o.2.2.1,<-u.o.1,<-u.o.2.1]
  go_upto_region 5 with (go_at_call 222;refine dr.o.mono ?_;rintro _ w1 ⟨rfl,dh⟩;rw[dh])
  obtain⟨L,ck⟩:∃L,L=w0.setCell ⟨eb,0,none⟩ .nilIface:=⟨_,rfl⟩;rw[<-ck]
  have H2:=Zz (show Bp L P D g/\Av L R D bd bn d/\Dv L lb eb P .nilIface/\Below w.heap.size w L/\Za4 L by
   rw[ck];have aw:Below w.heap.size w (w0.setCell ⟨eb,0,none⟩ .nilIface):=u.o.2.2.2.setCell (p:=⟨eb,0,none⟩) (by show w.heap.size<=eb;have:=u.o.1;have:=u.o.2.1;omega) _;refine⟨q.o.2.2.2.2.2.2.2.2.1.at_ (aw.block P hP),HR.o.2.1.Ir HR.o.2.2 _,HR.o.2.2.set _,aw,fun i hi=> ?_⟩;have:=q.o.2.2.2.2.2.2.1 i hi;exact cell_later aw this)
  obtain⟨y0,y1,y2⟩:=H2.o.2.2.1.cells;have p2:=H2.o.1.c2;obtain⟨B,S⟩:∃B,B=L.heap.size:=⟨_,rfl⟩;have fe:=make8 L g.short dd;obtain⟨mk,H⟩:∃mk,mk=L.alloc (.cells (madeCells (.int .u8 0:Value).cells (g.short * 1)) 5):=⟨_,rfl⟩;rw[<-H,<-S] at fe
  have fh:=Zz (show Calls prog 224 #[.slice (some ⟨B,0,none⟩) g.short g.short, .slice (some ⟨rg,0,none⟩) n rc] mk fun x w'=>∃v',x= .returned v'/\Al B w' v' (Zcx g.short l)/\Below B L w' by
   obtain⟨hn,hr,hl,_,_,_,_,E,_⟩:=q.o;have cu:Below L.heap.size L mk:=by rw[H];exact (Zk _ _).alloc (Zx _) _
   have fw:=(hr.below H2.o.2.2.2.1).below cu
   have fy:rg<B:=by
    rcases (hr.below H2.o.2.2.2.1).2 with⟨x,_⟩ | ⟨g',cap,cur,x,_,hh,_⟩
    ·simp at x
    ·obtain rfl:rg=g':=by simp only[Value.slice.injEq,Option.some.injEq,Addr.mk.injEq] at x;exact x.1.1
     rw[S];exact Zaa hh
   have hv:Al B mk (.slice (some ⟨B,0,none⟩) g.short g.short) (List.replicate g.short 0):=by
    unfold Al;rw[List.length_replicate,<-made8]
    have:=World.ownsRow_lit (e:=5) (base:=L.heap.size) (size:=1) L (madeCells (.int .u8 0:Value).cells (g.short * 1)) g.short (Zx _) (by unfold maxLen;omega) (by
     have:=congrArg List.length (made8 g.short);rw[Array.length_toList,Fj,List.length_replicate] at this;omega)
    rw[H,S];exact this
   have:=SR mk B B0 (.slice (some ⟨B,0,none⟩) g.short g.short) (List.replicate g.short 0) rg rc l hv (by rw[S];exact cu.size) fw fy hl (by rw[<-E];exact hlen) (by rw[<-E];exact db) (by rw[List.length_replicate];omega);rw[<-E] at this;refine this.mono ?_;rintro x w' ⟨v',rfl,h1,h2⟩;refine⟨v',rfl,h1,?_⟩;rw[S] at h2 ⊢;exact cu.trans h2.bl)
  have HB:=Zz (Zq S H);have gm:=Zz ck;clear S H ck
  go_upto_region 6 with (go_at_call 224;refine fh.o.mono ?_;rintro _ w3 ⟨vb,rfl,J,ei⟩;have cq:=Zz (Zq J ei);clear J ei)
  obtain⟨N,hN⟩:∃N,N=(Zcx g.short l).length:=⟨_,rfl⟩;have ee:N=g.short+n+6:=by rw[hN,Rh,q.o.2.2.2.2.2.2.2.1]
  obtain⟨bg,bc,gb,eo⟩:∃bg bc,vb= .slice (some ⟨bg,0,none⟩) N bc/\B<=bg:=by
   rw[hN];have hr:=cq.o.1;obtain⟨a,c,e⟩:=Zaz hr;rcases hr.2 with⟨x,y⟩ | ⟨g',cap,cur,x,hg,hh,_⟩
   ·omega
   ·exact⟨g',cap,x,hg⟩
  subst gb
  have H3:=Zz (show Bp w3 P D g/\Av w3 R D bd bn d/\Dv w3 lb eb P .nilIface/\Below w.heap.size w w3/\Za4 w3 by
   obtain⟨h1,h2,Y,Q,h5⟩:=H2.o;have V:=cq.o.2;rw[HB.o.1] at V;have fm:P<L.heap.size:=Zy hP Q.size;exact⟨h1.at_ (V.block P fm),h2.below V,Y.at_ (V.block lb (Zaa Y.l)) (V.block eb (Zaa Y.e)),Q.trans (V.mono Q.size),fun i hi=>cell_later V (h5 i hi)⟩)
  obtain⟨nm,I⟩:∃nm,nm=Da g.at_:=⟨_,rfl⟩;have z0:=H3.o.2.2.1.cells.1;have z1:=H3.o.1.c0;unfold Bw at z1;have z2:=H3.o.1.c1;have z3:=H3.o.2.2.2.2 g.at_ bp;rw[<-I] at z3;have z4:=H3.o.2.2.1.cells.2.1;have z5:=H3.o.2.2.1.cells.2.2;have ia:(g.at_:Int)<3:=by omega
  have ic:=VN;obtain⟨z,cy⟩:∃z,z=d.BW (g.op l):=⟨_,rfl⟩;have F:=Zz (Zq I (Zq cy (Zq hN ee)))
  have dy:∀wx,Below w3.heap.size w3 wx->Calls prog 316 #[.pointer (some ⟨D,0,none⟩), .string nm, .slice (some ⟨bg,0,none⟩) N bc] wx fun x w'=>x= .returned (AH z)/\Av w' R D bd bn (d.told (g.op l))/\Bp w' P D g/\Dv w' lb eb P .nilIface/\LF w w' P R D bd bn/\w'.cell? ⟨1,g.at_,none⟩=some (.string nm):=fun wx V=>by
   obtain⟨hn,hr,hl,ae,ag,aj,gi,E,_⟩:=q.o;obtain⟨h1,h2,Y,Q,h5⟩:=H3.o;have bf:=h2.below V;have J:Al B wx (.slice (some ⟨bg,0,none⟩) (Zcx g.short l).length bc) (Zcx g.short l):=by rw[<-hN];exact cq.o.1.below V
   have:=NY wx R D bd bn B bg bc d g.at_ (Zcx g.short l) bf fg bp (fun s hs=>by have:=ag _ _ hs;omega) J (by omega);rw[<-hN,<-I] at this;refine this.mono ?_;rintro x w' ⟨rfl,q1,h⟩;have C:Below w.heap.size w wx:=Q.trans (V.mono Q.size);have gh:w.heap.size<=bg:=by have:=H2.o.2.2.2.1.size;have:=HB.o.1;omega
   have fq:P<wx.heap.size:=Zy hP C.size;have ar:=h.block P fq hn.d hn.md hn.mn (by omega) (Zu hn.r);obtain⟨pa,pc,dk,_⟩:=bf.c;obtain⟨Dd,A⟩:=bf.fd;obtain⟨Dn,b⟩:=bf.fn;have cr:Dv wx lb eb P .nilIface:=Y.at_ (V.block lb (Zaa Y.l)) (V.block eb (Zaa Y.e))
   have stay:∀(k:Nat) (cs:Array Value) (t:TypeId) (fr:Nat×Nat),wx.heap[k]? =some (Obj.cells cs t fr)->t≠92->t≠5->t≠210->w'.heap[k]? =wx.heap[k]? :=fun k cs t fr e t1 t2 t3=>by
    have hm:∀bm f Dx,AB wx bm f Dx->k≠bm:=fun bm f Dx hx O=>by
     obtain⟨es,c,K,_⟩:=hx.own;rw[<-O,e] at K;cases K
    have eu:∃cs fr,wx.heap[bg]? =some (.cells cs 5 fr):=by
     rcases J.2 with⟨x,_⟩ | ⟨g',cap,cur,x,_,hh,_⟩
     ·simp at x
     ·obtain rfl:bg=g':=by simp only[Value.slice.injEq,Option.some.injEq,Addr.mk.injEq] at x;exact x.1.1
      exact⟨_,_,hh⟩
    obtain⟨gq,gu,ep⟩:=eu;exact h.block k (Zaa e) (Zai e dk.Au t1) (hm _ _ _ A) (hm _ _ _ b) (Zai e ep t2) (Zj (fun fi fj K=>by rw[e] at K;simp only[Option.some.injEq,Obj.cells.injEq] at K;exact t3 K.2.1))
   refine⟨by rw[cy];rfl,q1,(h1.at_ (V.block P (Zy hP Q.size))).at_ ar,cr.at_ (stay lb _ _ _ cr.l (by decide) (by decide) (by decide)) (stay eb _ _ _ cr.e (by decide) (by decide) (by decide)),?_,?_⟩
   ·exact⟨h.os.trans C.os,h.tape.trans C.tape,h.output.trans C.output,Zv C.size h.size,fun k hk h0 h1 h2 Y Q=>(h.block k (Zy hk C.size) h1 h2 Y (by omega) (Q.imp id (fun Q cs fr=>by rw[C.block k hk];exact Q cs fr))).trans (C.block k hk),fun o _=>(World.cell?_of_block (a:=⟨P,o,none⟩) ar).trans (World.cell?_of_block (a:=⟨P,o,none⟩) (C.block P hP)),fun o=>(World.frozen?_of_block (a:=⟨P,o,none⟩) ar).trans (World.frozen?_of_block (a:=⟨P,o,none⟩) (C.block P hP))⟩
   ·obtain⟨g1,g2,g3,g4⟩:=hn.gl
    have hr:=hn.r;have e:=h.block 1 (by omega) (by omega) (by omega) (by omega) (by omega) (Zu (by omega));exact (World.cell?_of_block (a:=⟨1,g.at_,none⟩) e).trans (cell_later V z3)
  have az:=Zz dy;have br:z=0\/z≠0:=by omega
  have dj:=Zz (Zq bp (Zq eo hP));have HM:=Zz (Zq hM (Zq hM2 (Zq dd hlen)));clear dy hN ee I cy y0 y1 y2 p2 fe eo bp dd fg hM hM2 db hlen;have hle:eb≠lb:=by have:=u.o.2.1;omega
  have gz:eb≠1:=by have:=u.o.1;have:=u.o.2.1;have:=q.o.1.gl;have:=dj.o.2.2;omega
  rcases br with j | j
  ·rw[j,Zaw] at az
   have b9:=Zz j;clear j
   go_region_held3 (fun w'=>((w'.cell? ⟨lb,0,none⟩=some (.pointer (some ⟨P,0,none⟩))/\w'.cell? ⟨P,0,none⟩=some (.iface 88 (.pointer (some ⟨D,0,none⟩))))/\w'.cell? ⟨P,1,none⟩=some (.int .i64 g.at_))/\w'.cell? ⟨1,g.at_,none⟩=some (.string nm)) (go_keep) ((go_at_call 316;refine (az.o w3.drew ((Zk _ _).drew)).mono ?_;rintro _ w4 ⟨rfl,q1,h,A,b,q5⟩;have H4:=Zz (Zq q1 (Zq h (Zq A b)));have x0:=A.cells.1;have x1:w4.cell? ⟨P,0,none⟩=some (.iface 88 (.pointer (some ⟨D,0,none⟩))):=h.c0;have x2:=h.c1;have x3:=A.cells.2.1;have x4:=A.cells.2.2;clear q1 h A b))
   clear x0 x1 x2 x3 x4 q5 z0 z1 z2 z3 z4 z5
   have W:=Zz (show Bp (w4.setCell ⟨eb,0,none⟩ (Value.nilIface)) P D g/\Av (w4.setCell ⟨eb,0,none⟩ (Value.nilIface)) R D bd bn (d.told (g.op l))/\Dv (w4.setCell ⟨eb,0,none⟩ (Value.nilIface)) lb eb P (Value.nilIface)/\LF w (w4.setCell ⟨eb,0,none⟩ (Value.nilIface)) P R D bd bn by
    obtain⟨q1,h,A,b⟩:=H4.o;have G:∀k,k≠eb->(w4.setCell ⟨eb,0,none⟩ (Value.nilIface)).heap[k]? =w4.heap[k]? :=fun k hk=>Zl w4 ⟨eb,0,none⟩ _ k hk;have ax:w.heap.size<=eb:=by have:=u.o.1;have:=u.o.2.1;omega
    refine⟨h.at_ (G P (Ne.symm m)),q1.Ir A _,A.set _,⟨b.os,b.tape,b.output,by simpa[World.setCell] using b.size,fun k hk h0 h1 h2 Y Q=>(G k (by omega)).trans (b.block k hk h0 h1 h2 Y Q),fun o ho=>(World.cell?_of_block (a:=⟨P,o,none⟩) (G P (Ne.symm m))).trans (b.off o ho),fun o=>(World.frozen?_of_block (a:=⟨P,o,none⟩) (G P (Ne.symm m))).trans (b.AE o)⟩⟩)
   generalize w4.setCell ⟨eb,0,none⟩ (Value.nilIface)=w5 at *
   have v0:=W.o.2.2.1.cells.2.1;have v1:=W.o.2.2.1.cells.2.2;have v2:=W.o.2.2.1.cells.1;have v3:w5.cell? ⟨P,2,none⟩=some (.int .i64 g.short):=W.o.1.c2;have v4:=W.o.1.fz 2
   go_upto_region 10 with fail
   have H6:=Zz (show Bp (w5.setCell ⟨P,2,none⟩ (.int .i64 0)) P D { g with short:=0 }/\Av (w5.setCell ⟨P,2,none⟩ (.int .i64 0)) R D bd bn (d.told (g.op l))/\Dv (w5.setCell ⟨P,2,none⟩ (.int .i64 0)) lb eb P .nilIface/\LF w (w5.setCell ⟨P,2,none⟩ (.int .i64 0)) P R D bd bn by
    obtain⟨q1,h,A,b⟩:=W.o;exact⟨q1.setS 0,h.Bt q.o.1 2 _ q1.c1,A.at_ (Zl w5 ⟨P,2,none⟩ _ lb dc) (Zl w5 ⟨P,2,none⟩ _ eb m),b.trans (LF.Bt w5 P R D bd bn 2 _ (by omega))⟩)
   clear v0 v1 v2 v3 v4
   generalize w5.setCell ⟨P,2,none⟩ (.int .i64 0)=w6 at *
   obtain⟨O,da⟩:∃O,O=(d.told (g.op l)).Bx:=⟨_,rfl⟩
   have eg:Calls prog 320 #[.pointer (some ⟨D,0,none⟩)] w6 fun x w'=>x= .returned (AH O)/\Av w' R D bd bn (d.told (g.op l)).synced/\Bp w' P D { g with short:=0 }/\Dv w' lb eb P .nilIface/\LF w w' P R D bd bn:=by
    obtain⟨hn,_,_,ae,ag,aj,_,E,_,_,hE⟩:=q.o;obtain⟨q1,h,A,b⟩:=H6.o;obtain⟨gv,gw,gx,gy⟩:=HM.o;obtain⟨t1,t2⟩:=ZV (d:=d) (o:=g.op l) (by rw[<-F.o.2.1];exact b9.o);have bo:P<w6.heap.size:=Zy dj.o.2.2 b.size;refine (Sz w6 R D bd bn M (d.told (g.op l)) h (by rw[t1];exact ae) (fun o ho=> ?_) (by omega)).mono ?_
    ·rw[t2] at ho
     rcases List.mem_append.1 ho with ho | ho
     ·exact aj o ho
     ·rw[List.mem_singleton.1 ho]
      show (Zcx g.short l).length<=M;have:=F.o.2.2.1;have:=F.o.2.2.2;omega
    ·rintro x w' ⟨rfl,r1,r2⟩
     have ar:=r2.block P bo hn.d hn.md hn.mn (Zu hn.r);obtain⟨pa,pc,dk,_⟩:=h.c;obtain⟨Dd,f3⟩:=h.fd;obtain⟨Dn,f4⟩:=h.fn
     have stay:∀(k:Nat) (cs:Array Value) (t:TypeId) (fr:Nat×Nat),w6.heap[k]? =some (Obj.cells cs t fr)->t≠92->t≠210->w'.heap[k]? =w6.heap[k]? :=fun k cs t fr e t1 t3=>by
      have hm:∀bm f Dx,AB w6 bm f Dx->k≠bm:=fun bm f Dx hx O=>by
       obtain⟨es,c,K,_⟩:=hx.own;rw[<-O,e] at K;cases K
      exact r2.block k (Zaa e) (Zai e dk.Au t1) (hm _ _ _ f3) (hm _ _ _ f4) (Zj (fun fi fj K=>by rw[e] at K;simp only[Option.some.injEq,Obj.cells.injEq] at K;exact t3 K.2.1))
     exact⟨by rw[da],r1,q1.at_ ar,A.at_ (stay lb _ _ _ A.l (by decide) (by decide)) (stay eb _ _ _ A.e (by decide) (by decide)),b.trans (LF.of_df r2 bo hn)⟩
   have du:=Zz eg;have dp:=Zz da;have ie:=Qx;have z0:=H6.o.2.2.1.cells.1;have z1:w6.cell? ⟨P,0,none⟩=some (.iface 88 (.pointer (some ⟨D,0,none⟩))):=H6.o.1.c0;have ay:=Fm O;obtain⟨ve,de⟩:∃ve,ve=AH O:=⟨_,rfl⟩;rw[<-de] at du ay;have dw:=Zz de;clear eg da de;rcases ay with rfl | ⟨ty,xv,rfl⟩
   all_goals
    go_wp2_with (go_at_call 320;refine du.o.mono ?_;rintro _ w7 ⟨rfl,r1,r2,r3,r4⟩;have H7:=Zz (Zq r1 (Zq r2 (Zq r3 r4)));have x1:=r3.cells.2.1;have x2:=r3.cells.2.2;clear r1 r2 r3 r4)
    have T:=q.o.2.2.2.2.2.2.2.2.2.2;have a0:¬d.BW (g.op l)≠0:=by rw[<-F.o.2.1];simpa using b9.o
    have a1:Ea g d l=O:=by unfold Ea;rw[if_neg (by rw[T];decide),if_neg a0];exact dp.o.symm
    have a2:FH g d l={ g with short:=0,err:=O }:=by unfold FH;rw[if_neg (by rw[T];decide),if_neg a0,dp.o]
    have a3:CO g d l=(d.told (g.op l)).synced:=by unfold CO;rw[if_neg (by rw[T];decide),if_neg a0]
    have ax:w.heap.size<=eb:=by have:=u.o.1;have:=u.o.2.1;omega
    have fv:=q.o.1;refine leaves_cons (f:=223) (args:=#[.pointer (some ⟨eb,0,none⟩), .pointer (some ⟨lb,0,none⟩)]) (by simp) (by simp[go_sem]) ?_;have cm:=Vz (v:=O) H7.o.1 H7.o.2.1 H7.o.2.2.1 H7.o.2.2.2 fv dc m ax;rw[<-dw.o] at cm;refine cm.mono ?_;rintro e u' gd ⟨rfl,rfl,hz,hq⟩;exact⟨_,by simp[results,Tryz.results150,go_sem,hz];rfl,by rw[a1,<-dw.o],by rw[a2];exact hq.1,by rw[a3];exact hq.2.1,hq.2.2⟩
  ·rw[Zan j] at az
   have b9:=Zz j;clear j
   go_region_held3 (fun w'=>((w'.cell? ⟨lb,0,none⟩=some (.pointer (some ⟨P,0,none⟩))/\w'.cell? ⟨P,0,none⟩=some (.iface 88 (.pointer (some ⟨D,0,none⟩))))/\w'.cell? ⟨P,1,none⟩=some (.int .i64 g.at_))/\w'.cell? ⟨1,g.at_,none⟩=some (.string nm)) (go_keep) ((go_at_call 316;refine (az.o w3.drew ((Zk _ _).drew)).mono ?_;rintro _ w4 ⟨rfl,q1,h,A,b,q5⟩;have H4:=Zz (Zq q1 (Zq h (Zq A b)));have x0:=A.cells.1;have x1:w4.cell? ⟨P,0,none⟩=some (.iface 88 (.pointer (some ⟨D,0,none⟩))):=h.c0;have x2:=h.c1;have x3:=A.cells.2.1;have x4:=A.cells.2.2;clear q1 h A b))
   clear x0 x1 x2 x3 x4 q5 z0 z1 z2 z3 z4 z5
   have W:=Zz (show Bp (w4.setCell ⟨eb,0,none⟩ (Value.iface 32 (.int .i64 z))) P D g/\Av (w4.setCell ⟨eb,0,none⟩ (Value.iface 32 (.int .i64 z))) R D bd bn (d.told (g.op l))/\Dv (w4.setCell ⟨eb,0,none⟩ (Value.iface 32 (.int .i64 z))) lb eb P (Value.iface 32 (.int .i64 z))/\LF w (w4.setCell ⟨eb,0,none⟩ (Value.iface 32 (.int .i64 z))) P R D bd bn by
    obtain⟨q1,h,A,b⟩:=H4.o;have G:∀k,k≠eb->(w4.setCell ⟨eb,0,none⟩ (Value.iface 32 (.int .i64 z))).heap[k]? =w4.heap[k]? :=fun k hk=>Zl w4 ⟨eb,0,none⟩ _ k hk;have ax:w.heap.size<=eb:=by have:=u.o.1;have:=u.o.2.1;omega
    refine⟨h.at_ (G P (Ne.symm m)),q1.Ir A _,A.set _,⟨b.os,b.tape,b.output,by simpa[World.setCell] using b.size,fun k hk h0 h1 h2 Y Q=>(G k (by omega)).trans (b.block k hk h0 h1 h2 Y Q),fun o ho=>(World.cell?_of_block (a:=⟨P,o,none⟩) (G P (Ne.symm m))).trans (b.off o ho),fun o=>(World.frozen?_of_block (a:=⟨P,o,none⟩) (G P (Ne.symm m))).trans (b.AE o)⟩⟩)
   generalize w4.setCell ⟨eb,0,none⟩ (Value.iface 32 (.int .i64 z))=w5 at *
   have v0:=W.o.2.2.1.cells.2.1;have v1:=W.o.2.2.1.cells.2.2;go_wp2_with fail
   refine leaves_cons (f:=223) (args:=#[.pointer (some ⟨eb,0,none⟩), .pointer (some ⟨lb,0,none⟩)]) (by simp) (by simp[go_sem]) ?_;have ct:=W.o.2.2.1.set (.iface 32 (.int .i64 z));have bo:∀v,((w5.setCell ⟨eb,0,none⟩ v).heap[P]? =w5.heap[P]?):=fun v=>Zl w5 ⟨eb,0,none⟩ v P (Ne.symm m);have bj:=W.o.1.at_ (bo (.iface 32 (.int .i64 z)));refine (Kd _ P eb lb (.iface 32 (.int .i64 z)) ct.cells.1 ct.cells.2.1 (Zj ⟨_,_,rfl⟩) ⟨_,bj.c3⟩ (bj.fz 3)).mono ?_;rintro e u' gd ⟨rfl,rfl,rfl⟩;have T:=q.o.2.2.2.2.2.2.2.2.2.2;have j:=b9.o;have a1:Ea g d l=z:=by unfold Ea;rw[if_neg (by rw[T];decide),if_pos (by rw[<-F.o.2.1];exact j)];exact F.o.2.1.symm
   have a2:FH g d l={ g with err:=z }:=by unfold FH;rw[if_neg (by rw[T];decide),if_pos (by rw[<-F.o.2.1];exact j),F.o.2.1]
   have a3:CO g d l=d.told (g.op l):=by unfold CO;rw[if_neg (by rw[T];decide),if_pos (by rw[<-F.o.2.1];exact j)]
   have ft:Dv ((w5.setCell ⟨eb,0,none⟩ (.iface 32 (.int .i64 z))).setCell ⟨P,3,none⟩ (.iface 32 (.int .i64 z))) lb eb P (.iface 32 (.int .i64 z)):=ct.at_ (Zl _ ⟨P,3,none⟩ _ lb dc) (Zl _ ⟨P,3,none⟩ _ eb m);have hz:=ft.cells.2.1;refine⟨.iface 32 (.int .i64 z),by simp[results,Tryz.results150,go_sem,hz],by rw[a1,Zan j],?_,?_,?_⟩
   ·have:=bj.Ir z
    rw[Zan j] at this;rw[a2];exact this
   ·rw[a3]
    exact (W.o.2.1.Ir W.o.2.2.1 _).Bt q.o.1 3 _ bj.c1
   ·have b:=W.o.2.2.2
    have ax:w.heap.size<=eb:=by have:=u.o.1;have:=u.o.2.1;omega
    exact (LF.WU b eb _ ax m).trans (LF.Bt _ P R D bd bn 3 _ (by omega))
 ·have z:Ea g d l=g.err:=if_pos hE
  have O:FH g d l=g:=if_pos hE;have K:CO g d l=d:=if_pos hE;rw[z,O,K,<-E];rw[Zan hE] at X ⊢;have HR:=Zz (Zq U (Zq bh au));obtain⟨er,ez⟩:∃er,er=g.err:=⟨_,rfl⟩;rw[<-ez] at X ⊢;clear hL hD U bh au hn hr ae ag aj al Z bw av I hE z O K ey fc ez
  go_enter_defers func150,ntmps150
  go_upto_region 1 with fail
  rw[<-u.o.2.2.1,<-u.o.1,<-u.o.2.1];go_wp2_with (go_at_call 222;refine X.o.mono ?_;rintro _ w1 ⟨rfl,dh⟩;rw[dh])
  have fs:=(HR.o.2.2.set (.iface 32 (.int .i64 er))).set (.iface 32 (.int .i64 er));have hz:=fs.cells.2.1;refine⟨.iface 32 (.int .i64 er),by simp[results,Tryz.results150,go_sem,hz],rfl,?_,?_,?_⟩
  ·refine HR.o.1.at_ ((Zl _ ⟨eb,0,none⟩ _ P (Ne.symm m)).trans (Zl _ ⟨eb,0,none⟩ _ P (Ne.symm m)))
  ·exact (HR.o.2.1.Ir HR.o.2.2 _).Ir (HR.o.2.2.set _) _
  ·have hq:=u.o.2.2.2
   have aw:Below w.heap.size w ((w0.setCell ⟨eb,0,none⟩ (.iface 32 (.int .i64 er))).setCell ⟨eb,0,none⟩ (.iface 32 (.int .i64 er))):=(hq.setCell (p:=⟨eb,0,none⟩) (by show w.heap.size<=eb;have:=u.o.1;have:=u.o.2.1;omega) _).setCell (p:=⟨eb,0,none⟩) (by show w.heap.size<=eb;have:=u.o.1;have:=u.o.2.1;omega) _;exact LF.Ae R D bd bn aw hP
end Go.Proofs.YtgdcjccbdmcebaaGreatDoor
