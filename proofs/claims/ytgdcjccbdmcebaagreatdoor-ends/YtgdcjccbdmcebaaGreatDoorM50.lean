import Derived.Test.YtgdcjccbdmcebaaGreatDoorM48
import Derived.Test.YtgdcjccbdmcebaaGreatDoorM49
set_option linter.unusedSimpArgs false
set_option linter.unusedVariables false
set_option maxHeartbeats 8000000
set_option maxRecDepth 100000
open Go.Proofs.Tryz
namespace Go.Proofs.YtgdcjccbdmcebaaGreatDoor
open Go.RowKit
attribute [local go_sem ↓] Go.wp_at_zero Go.wp_at_succ
variable {ob:Option Nat}{w:World}{e2:Ab}{d:Ay}{cs:Array Value}{bd bn:Nat}
def LopS (w w':World)(R D bd bn P:Nat)(d:Ay)(e2:Ab):Prop:=∃B ob,P<B/\B<=w'.heap.size/\w.heap.size<=B/\BY w' P B ob e2/\(∀w2:World,w'.heap.size<=w2.heap.size->(∀k,k<B->k≠P->(∀cs fr,w'.heap[k]? ≠some (.cells cs 148 fr))->w2.heap[k]? =w'.heap[k]?)->Av w2 R D bd bn d.synced)/\w'.cell? ⟨D,2,none⟩=some (.slice none 0 0)/\(∀o,o<4->w'.cell? ⟨P,o,none⟩=w.cell? ⟨P,o,none⟩)/\(∀o,w'.frozen? ⟨P,o,none⟩=false)/\w'.os=w.os/\w'.tape=w.tape/\w'.output=w.output/\∀k,k<w.heap.size->k≠P->k≠D->k≠bd->k≠bn->(k<R\/∀cs fr,w.heap[k]? ≠some (.cells cs 210 fr))->w'.heap[k]? =w.heap[k]?
theorem Qu (w:World)(R D bd bn M P:Nat)(d:Ay)(v1:Value)(g:List (List Int))(e2:Ab)(h:Av w R D bd bn d)(hw:d.Bx=0)(cm:d.synced.down=false)(cu:d.synced.now 0=some (g.flatMap Zas))(hn:∀i,1<=i->i<3->d.synced.now i=none)(hr:Dc Za1 g e2)(K:∀l∈g,GA l)(AQ:AD e2)(hlen:(g.flatMap Zas).length<=1000000000000)(C:∃cs,w.heap[P]? =some (.cells cs 165 (0,0)))(Q:∀j v,GI[j]? =some v->w.cell? ⟨P,4+j,none⟩=some v)(r:P≠D/\P≠bd/\P≠bn)(hT:AL w)(V:4<P)(J:∀o,w.frozen? ⟨P,o,none⟩=false)(hs:Hr d.CJ M)(cy:∀o∈d.Ap,o.data.length<=M)(hM:M<=1099511627776)(cr:Za4 w)(Y:4<D/\4<bd/\4<bn/\4<R) :
  Calls prog 79 #[Bw D,v1, .func (.func 81) #[.pointer (some ⟨P,4,none⟩)] #[]] w fun x w'=>x= .returned (.tuple #[Jl D, .nilIface])/\LopS w w' R D bd bn P d e2:=by
 obtain⟨rb,bj⟩:∃rb,rb=w.heap.size:=⟨_,rfl⟩;obtain⟨w1,au⟩:∃w1,w1=w.alloc (.cells #[.nilIface, .int .i64 0, .int .i64 0, .nilIface] 148):=⟨_,rfl⟩;have W:Below w.heap.size w w1:=by rw[au];exact (Zk _ _).alloc (Zx _) _
 have ag:w1.heap[rb]? =some (.cells #[.nilIface, .int .i64 0, .int .i64 0, .nilIface] 148 (0,0)):=by rw[au,bj];exact heap_alloc_new w _
 have h1:=h.below W;obtain⟨pa,pc,dk,_⟩:=h.c;obtain⟨Dd,f3⟩:=h.fd;obtain⟨Dn,f4⟩:=h.fn;have dj:=Zaa dk.Au;have dw:=f3.lt;have eo:=f4.lt
 have dd:=Zz (show Calls prog 320 #[.pointer (some ⟨D,0,none⟩)] w1 fun x w'=>x= .returned .nilIface/\Av w' R D bd bn d.synced/\DF w1 w' R D bd bn/\w'.heap[rb]? =some (.cells #[.nilIface, .int .i64 0, .int .i64 0, .nilIface] 148 (0,0))/\Za4 w'/\w'.cell? ⟨D,2,none⟩=some (.slice none 0 0) from by
  refine (Ia w1 R D bd bn M d h1 hs cy hM).mono ?_;rintro x w' ⟨rfl,q1,q2,q9⟩;rw[hw,Zaw];refine⟨rfl,q1,q2,(q2.block rb (Zaa ag) (by omega) (by omega) (by omega) (Zj fun G H e'=>by rw[ag] at e';simp only[Option.some.injEq,Obj.cells.injEq] at e';exact absurd e'.2.1 (by decide))).trans ag,fun i hi=> ?_,q9 hw⟩;have hz:=cell_later W (cr i hi);have du:1<w1.heap.size:=World.block_lt_of_cell? _ _ hz;exact (World.cell?_of_block (a:=⟨1,i,none⟩) (q2.block 1 du (by omega) (by omega) (by omega) (Zu (by omega)))).trans hz)
 have m:BB (g.flatMap Zas):=fun x hx=>by
  obtain⟨l,hl,fc⟩:=List.mem_flatMap.1 hx;exact Oo (K l hl).byte x fc
 have az:=Zz (show ∀S,Av S R D bd bn d.synced->Za4 S->Calls prog 120 #[Bw D] S fun x w'=>∃b c,x= .returned (.tuple #[LB b (g.flatMap Zas).length c, .nilIface])/\FC S w' b c (g.flatMap Zas) from fun S hx hy=>Lj S R D bd bn d.synced _ hx cm cu hn m hlen hy);have HR:=Zz (Zq au (Zq bj W));have hm:=Qx;unfold LB Bw at az;obtain⟨ln,I⟩:∃ln,ln=(g.flatMap Zas).length:=⟨_,rfl⟩;rw[<-I] at az;have br:=Zz (show Dc Za1 g e2/\(∀l∈g,GA l)/\AD e2/\(g.flatMap Zas).length<=1000000000000/\(∃cs,w.heap[P]? =some (.cells cs 165 (0,0)))/\(∀j v,GI[j]? =some v->w.cell? ⟨P,4+j,none⟩=some v)/\(P≠D/\P≠bd/\P≠bn)/\AL w/\(4<D/\4<bd/\4<bn/\4<R)/\ln=(g.flatMap Zas).length/\4<P/\(∀o,w.frozen? ⟨P,o,none⟩=false) from⟨hr,K,AQ,hlen,C,Q,r,hT,Y,I,V,J⟩);unfold Bw;clear h hw cm hn hs cy hM cr Y bj au W ag h1 dk f3 f4 dj dw eo cu hr K AQ hlen C Q r hT m I V J
 go_enter func79,ntmps79
 go_upto_region 1 with fail
 rw[<-HR.o.1,<-HR.o.2.1]
 go_upto_region 9 with (first
  | (go_at_call 320;refine dd.o.mono ?_;rintro _ S ⟨rfl,q1,q2,q3,q4,q5⟩;have T:=Zz (Zq q1 (Zq q2 (Zq q3 (Zq q4 q5))));clear q1 q2 q3 q4 q5)
  | (go_at_call 120;refine (az.o S T.o.1 T.o.2.2.2.1).mono ?_;rintro _ w3 ⟨nb,nc,rfl,B⟩;have cq:=(B.2.2.2.block rb (Zaa T.o.2.2.1)).trans T.o.2.2.1;have H3:=Zz (Zq B.2.2.2 (Zq cq B));clear B cq))
 obtain⟨fb,X⟩:∃fb,fb=w3.heap.size:=⟨_,rfl⟩;obtain⟨w4,av⟩:∃w4,w4=w3.alloc (.cells #[.int .i64 0, .slice none 0 0, .slice (some ⟨nb,0,none⟩) ln nc] 220):=⟨_,rfl⟩;rw[<-av,<-X];have A:Below w3.heap.size w3 w4:=by rw[av];exact (Zk _ _).alloc (Zx _) _
 have aj:=(A.block rb (Zaa H3.o.2.1)).trans H3.o.2.1;have L:w4.heap[fb]? =some (.cells #[.int .i64 0, .slice none 0 0, .slice (some ⟨nb,0,none⟩) ln nc] 220 (0,0)):=by rw[av,X];exact heap_alloc_new w3 _
 have z0:=Zad L 0;have z2:=Zad L 2
 have bp:=Zz (show ((∀wx,Below w4.heap.size w4 wx->Calls prog 121 #[.slice (some ⟨nb,0,none⟩) ln nc, .func (.func 81) #[.pointer (some ⟨P,4,none⟩)] #[]] wx fun x w'=>x= .returned (.int .i64 0)/\w'.heap[rb]? =some (.cells #[.nilIface, .int .i64 0, .int .i64 0, .nilIface] 148 (0,0))/\w'.heap[fb]? =some (.cells #[.int .i64 0, .slice none 0 0, .slice (some ⟨nb,0,none⟩) ln nc] 220 (0,0))/\∃wy,Below w4.heap.size w4 wy/\Jq wy w' P w4.heap.size none e2))/\(DF w w4 R D bd bn/\P<w4.heap.size/\P<w.heap.size/\P≠rb/\w4.heap[P]? =w.heap[P]?) from by
  obtain⟨hr,K,AQ,hlen,⟨fe,C⟩,Q,r,hT,Y,I,V,J⟩:=br.o;have n:DF w w4 R D bd bn:=(((DF.Ae R D bd bn HR.o.2.2).trans T.o.2.1).trans (DF.Ae R D bd bn H3.o.1)).trans (DF.Ae R D bd bn A);have E:w4.heap[P]? =w.heap[P]? :=n.block P (Zaa C) r.1 r.2.1 r.2.2 (Zj fun cs fr e=>by rw[C] at e;simp only[Option.some.injEq,Obj.cells.injEq] at e;exact absurd e.2.1 (by decide));have b9:=Zaa C;have s:P<w4.heap.size:=Zy b9 n.size;have ep:=HR.o.2.1;have eg:BY w4 P w4.heap.size none Za1:=Vx (fun j v hj=>(World.cell?_of_block (a:=⟨P,4+j,none⟩) E).trans (Q j v hj)) (fun o=>(World.frozen?_of_block (a:=⟨P,o,none⟩) E).trans (J o)) s (Zx _);have ey:2<w.heap.size:=by omega
  have db:AL w4:=hT.at_ (n.block 2 ey (by omega) (by omega) (by omega) (Zu (by omega)));have eu:RvN w4 P w4.heap.size:=⟨s,Zx _,db,by have:=n.size;omega,by omega⟩;have B:=H3.o.2.2;have ei:nb≠P:=by have:=B.2.2.1;have:=T.o.2.1.size;have:=HR.o.2.2.size;omega
  refine⟨fun wx u=> ?_,n,s,b9,by omega,E⟩;have hu:Sk wx P nb:=⟨ei,by obtain⟨cs,fr,e⟩:=B.2.1;exact⟨cs,fr,(u.block nb (Zy (Zaa e) A.size)).trans ((A.block nb (Zaa e)).trans e)⟩⟩;have:=Ps wx P w4.heap.size nb 0 nc none Za1 e2 g (eg.below u) Fl ⟨by decide,by decide⟩ AQ hr K (eu.kf (KF.Ae P w4.heap.size none u)) hu ((B.1.below A).below u) hlen;rw[<-I] at this;refine this.mono ?_;rintro x w' ⟨rfl,h5⟩;obtain⟨bo,bh,q,ct⟩:=h5;have al:=Zaa aj;have bf:=Zaa L;have dy:fb≠P:=by have:=X;have:=H3.o.1.size;have:=T.o.2.1.size;have:=HR.o.2.2.size;omega
  exact⟨rfl,(q.block rb (Zy al u.size) (by omega) (Zu al)).trans ((u.block rb al).trans aj),(q.block fb (Zy bf u.size) dy (Zu bf)).trans ((u.block fb bf).trans L),wx,u,bo,bh,q,ct⟩)
 have dc:=Zz (show Av w4 R D bd bn d.synced/\w4.cell? ⟨D,2,none⟩=some (.slice none 0 0)/\w4.heap[rb]? =some (.cells #[.nilIface, .int .i64 0, .int .i64 0, .nilIface] 148 (0,0)) from⟨(T.o.1.below H3.o.1).below A,cell_later A (cell_later H3.o.1 T.o.2.2.2.2),aj⟩)
 have aw:=Zz (show ∀z:World,(z.heap[rb]? =some (.cells #[.nilIface, .int .i64 0, .int .i64 0, .nilIface] 148 (0,0))/\∃wy,Below w4.heap.size w4 wy/\Jq wy z P w4.heap.size none e2)->(loadVar 148 ⟨rb,0,none⟩).run prog ((((z.setCell ⟨rb,0,none⟩ (Bw D)).setCell ⟨rb,1,none⟩ (.int .i64 0)).setCell ⟨rb,2,none⟩ (.int .i64 0)).setCell ⟨rb,3,none⟩ .nilIface)= .ok (Jl D) ((((z.setCell ⟨rb,0,none⟩ (Bw D)).setCell ⟨rb,1,none⟩ (.int .i64 0)).setCell ⟨rb,2,none⟩ (.int .i64 0)).setCell ⟨rb,3,none⟩ .nilIface)/\LopS w ((((z.setCell ⟨rb,0,none⟩ (Bw D)).setCell ⟨rb,1,none⟩ (.int .i64 0)).setCell ⟨rb,2,none⟩ (.int .i64 0)).setCell ⟨rb,3,none⟩ .nilIface) R D bd bn P d e2 from fun z ⟨p,wy,m,bo,bh,q,ct⟩=>by
  have ax:((((z.setCell ⟨rb,0,none⟩ (Bw D)).setCell ⟨rb,1,none⟩ (.int .i64 0)).setCell ⟨rb,2,none⟩ (.int .i64 0)).setCell ⟨rb,3,none⟩ .nilIface).heap[rb]? =some (.cells #[Bw D, .int .i64 0, .int .i64 0, .nilIface] 148 (0,0)):=by
   rw[Zab (Zab (Zab (Zab p _) _) _) _];rfl
  have O:Ax z ((((z.setCell ⟨rb,0,none⟩ (Bw D)).setCell ⟨rb,1,none⟩ (.int .i64 0)).setCell ⟨rb,2,none⟩ (.int .i64 0)).setCell ⟨rb,3,none⟩ .nilIface) rb:=Ax.Iq z rb _ _ _ _;refine⟨RE ax,?_⟩;clear ax;obtain⟨w9,ez⟩:∃w9,w9=((((z.setCell ⟨rb,0,none⟩ (Bw D)).setCell ⟨rb,1,none⟩ (.int .i64 0)).setCell ⟨rb,2,none⟩ (.int .i64 0)).setCell ⟨rb,3,none⟩ .nilIface):=⟨_,rfl⟩;rw[<-ez] at O ⊢;obtain⟨_,n,s,b9,dr,E⟩:=bp.o;obtain⟨ae,de,F⟩:=dc.o;obtain⟨hr,K,AQ,hlen,⟨fe,C⟩,Q,r,hT,Y,I,V,J⟩:=br.o;have al:=Zaa F;have ep:=HR.o.2.1;have ar:w4.heap.size<=z.heap.size:=Zv m.size q.size;have dp:P<z.heap.size:=Zy s ar;have ck:P<wy.heap.size:=Zy s m.size;have Aj:∀k,k<w4.heap.size->k≠P->k≠rb->w9.heap[k]? =w4.heap[k]? :=fun k Z h1 h2=>(O.block k (Zy Z ar) h2).trans ((q.block k (Zy Z m.size) h1 (Zu Z)).trans (m.block k Z));have U:=O.block P dp dr;obtain⟨pa,pc,dk,_⟩:=ae.c;obtain⟨Dd,g3⟩:=ae.fd;obtain⟨Dn,g4⟩:=ae.fn
  have hm:∀bm f Dx,AB w4 bm f Dx->bm≠rb:=fun bm f Dx hx e2=>by
   obtain⟨es,c,e3,_⟩:=hx.own;rw[e2,F] at e3;cases e3
  have bw:=Zai dk.Au F (by decide);have dh:=Aj D (Zaa dk.Au) (Ne.symm r.1) bw;obtain⟨rs,l,hx,ht⟩:=bh;refine⟨w4.heap.size,bo,s,Zv ar O.size,n.size,⟨rs,l,hx.side ⟨O.size,fun o _=>World.cell?_of_block (a:=⟨P,o,none⟩) U,fun o=>World.frozen?_of_block (a:=⟨P,o,none⟩) U,fun k cs t fr Z e _=>O.block k (Zaa e) (by omega),fun k es c Z e=>O.block k (Zaa e) (by omega)⟩,ht⟩,?_,(World.cell?_of_block (a:=⟨D,2,none⟩) dh).trans de,fun o h4=> ?_,fun o=> ?_,O.os.trans (q.os.trans (m.os.trans n.os)),O.tape.trans (q.tape.trans (m.tape.trans n.tape)),O.output.trans (q.output.trans (m.output.trans n.output)),fun k Z a0 a1 a2 a3 a4=>(Aj k (Zy Z n.size) a0 (by omega)).trans (n.block k Z a1 a2 a3 a4)⟩
  ·intro S da ee
   have y:∀k,k<w4.heap.size->k≠P->k≠rb->(∀cs fr,w4.heap[k]? ≠some (.cells cs 148 fr))->S.heap[k]? =w4.heap[k]? :=fun k h1 h2 h3 h4=>(ee k h1 h2 (fun cs fr e=>h4 cs fr ((Aj k h1 h2 h3).symm.trans e))).trans (Aj k h1 h2 h3)
   have ay:∀(k:Nat) (cs:Array Value) (t:TypeId) (fr:Nat×Nat),w4.heap[k]? =some (.cells cs t fr)->t≠148->∀G H,w4.heap[k]? ≠some (.cells G 148 H):=fun k cs t fr e ht G H e'=>by
    rw[e] at e';simp only[Option.some.injEq,Obj.cells.injEq] at e';exact ht e'.2.1
   have notM:∀bm f Dx,AB w4 bm f Dx->∀G H,w4.heap[bm]? ≠some (.cells G 148 H):=fun bm f Dx hx G H e'=>by
    obtain⟨es,c,e3,_⟩:=hx.own;rw[e3] at e';cases e'
   exact ae.Aj (Zv (Zv ar O.size) da) (y D (Zaa dk.Au) (Ne.symm r.1) bw (ay _ _ _ _ dk.Au (by decide))) (y bd g3.lt (Ne.symm r.2.1) (hm _ _ _ g3) (notM _ _ _ g3)) (y bn g4.lt (Ne.symm r.2.2) (hm _ _ _ g4) (notM _ _ _ g4)) (fun k cs t fr e ht=>y k (Zaa e) (Zai e (E.trans C) (by rcases ht with rfl | rfl<;>decide)) (Zai e F (by rcases ht with rfl | rfl<;>decide)) (ay _ _ _ _ e (by rcases ht with rfl | rfl<;>decide)))
  ·exact (World.cell?_of_block (a:=⟨P,o,none⟩) U).trans ((q.off ck o h4).trans ((World.cell?_of_block (a:=⟨P,o,none⟩) (m.block P s)).trans (World.cell?_of_block (a:=⟨P,o,none⟩) E)))
  ·exact (World.frozen?_of_block (a:=⟨P,o,none⟩) U).trans ((q.AE ck o).trans ((World.frozen?_of_block (a:=⟨P,o,none⟩) (m.block P s)).trans ((World.frozen?_of_block (a:=⟨P,o,none⟩) E).trans (J o)))))
 unfold Bw at aw;clear A aj L av X
 go_region_with (go_at_call 121;refine (bp.o.1 _ ((Zk _ _).drew)).mono ?_;rintro _ z ⟨rfl,p,N,h5⟩;have z0:=Zad N 0;have z2:=Zad N 2;have y0:=Zad p 0;have y1:=Zad p 1;have y2:=Zad p 2;have y3:=Zad p 3;have f0:z.frozen? ⟨rb,0,none⟩=false:=(by simp[World.frozen?,p]);have f1:z.frozen? ⟨rb,1,none⟩=false:=(by simp[World.frozen?,p]);have f2:z.frozen? ⟨rb,2,none⟩=false:=(by simp[World.frozen?,p]);have f3:z.frozen? ⟨rb,3,none⟩=false:=(by simp[World.frozen?,p]);have H5:=Zz (Zq p h5);clear p h5 N)
 all_goals go_wp2_with fail
 all_goals
  have hz:=aw.o _ H5.o;refine bodyPost_ret (v:= .tuple #[Jl D, .nilIface]) (by rw[results_cell_tmp rfl];simp[Result.andThen,asAddr,hz.1,Act.put]) rfl ⟨rfl,hz.2⟩
structure XD (w w':World)(R D bd bn P B:Nat)(ob:Option Nat)(d:Ay)(e2:Ab):Prop where
 pb:P<B
 bs:B<=w'.heap.size
 kp:BY w' P B ob e2
 dk:∀w2:World,w'.heap.size<=w2.heap.size->(∀k,k<B->k≠P->(∀cs fr,w'.heap[k]? ≠some (.cells cs 148 fr))->w2.heap[k]? =w'.heap[k]?)->Av w2 R D bd bn d.synced
 nil:w'.cell? ⟨D,2,none⟩=some (.slice none 0 0)
 z:∀o,o<4->w'.cell? ⟨P,o,none⟩=[Value.nilIface, .int .i64 0, .int .i64 0, .nilIface][o]?
 fz:∀o,w'.frozen? ⟨P,o,none⟩=false
 df:DF w w' R D bd bn
 wb:w.heap.size<=B
theorem XD.below {w' wx:World}{R D P B:Nat}(h:XD w w' R D bd bn P B ob d e2)(b:Below w'.heap.size w' wx):XD w wx R D bd bn P B ob d e2:=by
 have l:P<w'.heap.size:=Zy h.pb h.bs;have e:=b.block P l;refine⟨h.pb,Zv h.bs b.size,h.kp.below b,fun n i j=>h.dk n (Zv b.size i) fun k g c hl=> ?_,cell_later b h.nil,fun o m=>(World.cell?_of_block (a:=⟨P,o,none⟩) e).trans (h.z o m),fun o=>(World.frozen?_of_block (a:=⟨P,o,none⟩) e).trans (h.fz o),h.df.trans (DF.Ae R D bd bn b),h.wb⟩;have f:=b.block k (Zy g h.bs);exact (j k g c fun cs fr x=>hl cs fr (f.symm.trans x)).trans f
theorem XD.log {w' wx:World}{R D P B lb:Nat}(h:XD w w' R D bd bn P B ob d e2)(f:Ax w' wx lb)(hl:w'.heap[lb]? =some (.cells cs 148 (0,0)))(H:∃m,wx.heap[lb]? =some (.cells m 148 (0,0)))(A:P≠lb)(hw:w.heap.size<=lb)(G:D<w.heap.size):XD w wx R D bd bn P B ob d e2:=by
 have p:P<w'.heap.size:=Zy h.pb h.bs;have e:=f.block P p A;obtain⟨rs,l,C,E⟩:=h.kp;refine⟨h.pb,Zv h.bs f.size,⟨rs,l,C.side ⟨f.size,fun o _=>World.cell?_of_block (a:=⟨P,o,none⟩) e,fun o=>World.frozen?_of_block (a:=⟨P,o,none⟩) e,fun k g t fr b e' j=>f.block k (Zaa e') (Zai e' hl (fun x=>by subst x;unfold Rl at j;revert j;decide)),fun k es c b e'=>f.block k (Zaa e') (fun x=>by rw[x,hl] at e';cases e')⟩,E⟩,fun F u v=>h.dk F (Zv f.size u) fun k b q i=> ?_,(World.cell?_of_block (a:=⟨D,2,none⟩) (f.block D (World.block_lt_of_cell? _ _ h.nil) (by omega))).trans h.nil,fun o y=>(World.cell?_of_block (a:=⟨P,o,none⟩) e).trans (h.z o y),fun o=>(World.frozen?_of_block (a:=⟨P,o,none⟩) e).trans (h.fz o),h.df.Jr f hw,h.wb⟩;have r:k≠lb:=fun x=>i cs (0,0) (by rw[x];exact hl)
 have s:=f.block k (Zy b h.bs) r;exact (v k b q fun g n x=>i g n (s.symm.trans x)).trans s
def OpL (w wc:World)(R D bd bn P lb:Nat)(d:Ay)(e2:Ab):Prop:=wc.heap[lb]? =some (.cells #[Bw D, .int .i64 0, .int .i64 0, .nilIface] 148 (0,0))/\lb≠P/\∃B ob,XD w wc R D bd bn P B ob d e2
theorem UI {b o:Nat}{v:Value}(h:w.cell? ⟨b,o,none⟩=some v):∃cs t fr,w.heap[b]? =some (.cells cs t fr):=by
 unfold World.cell? at h
 split at h
 ·exact⟨_,_,_,‹_›⟩
 ·simp at h
theorem OpL.new {c a:World}{R D P:Nat}(e:P=w.heap.size)(b:Below w.heap.size w c)(h:∃B ob,XD w a R D bd bn P B ob d e2):OpL w (a.alloc (.cells #[Bw D, .int .i64 0, .int .i64 0, .nilIface] 148)) R D bd bn P a.heap.size d e2:=by
 obtain⟨B,ob,h⟩:=h;exact⟨heap_alloc_new _ _,by have:=h.pb;have:=h.bs;omega,B,ob,h.below ((Zk _ _).alloc (Zx _) _)⟩
theorem OpL.old {b:World}{R D P lb:Nat}(h:∃B ob,XD w b R D bd bn P B ob d e2)(hl:b.heap[lb]? =some (.cells #[.nilIface, .int .i64 0, .int .i64 0, .nilIface] 148 (0,0)))(c:lb≠P)(hw:w.heap.size<=lb)(e:D<w.heap.size):OpL w ((((b.setCell ⟨lb,0,none⟩ (Bw D)).setCell ⟨lb,1,none⟩ (.int .i64 0)).setCell ⟨lb,2,none⟩ (.int .i64 0)).setCell ⟨lb,3,none⟩ .nilIface) R D bd bn P lb d e2:=by
 obtain⟨B,ob,h⟩:=h;have f:=Ax.Iq b lb (Bw D) (.int .i64 0) (.int .i64 0) .nilIface
 have a:((((b.setCell ⟨lb,0,none⟩ (Bw D)).setCell ⟨lb,1,none⟩ (.int .i64 0)).setCell ⟨lb,2,none⟩ (.int .i64 0)).setCell ⟨lb,3,none⟩ .nilIface).heap[lb]? =some (.cells #[Bw D, .int .i64 0, .int .i64 0, .nilIface] 148 (0,0)):=by
  rw[Zab (Zab (Zab (Zab hl _) _) _) _];rfl
 exact⟨a,c,B,ob,h.log f hl ⟨_,a⟩ (Ne.symm c) hw e⟩
theorem PV (w:World)(R D bd bn M:Nat)(d:Ay)(p:List (List Int))(e2:Ab)(h:Av w R D bd bn d)(hw:d.Bx=0)(Q:d.synced.down=false)(X:d.synced.now 0=some (p.flatMap Zas))(hn:∀i,1<=i->i<3->d.synced.now i=none)(hr:Dc Za1 p e2)(W:∀l∈p,GA l)(AQ:AD e2)(hlen:(p.flatMap Zas).length<=1000000000000)(hT:AL w)(al:4<w.heap.size)(hs:Hr d.CJ M)(Y:∀o∈d.Ap,o.data.length<=M)(hM:M<=1099511627776)(V:Za4 w)(T:4<D/\4<bd/\4<bn/\4<R) :
  Calls prog 35 #[Bw D] w fun x w'=>∃P B ob,x= .returned (.tuple #[.pointer (some ⟨P,0,none⟩), .nilIface])/\w.heap.size<=P/\P<B/\B<=w'.heap.size/\Bp w' P D ⟨0,0,0⟩/\BY w' P B ob e2/\Av w' R D bd bn d.synced/\DF w w' R D bd bn/\w'.cell? ⟨D,2,none⟩=some (.slice none 0 0):=by
 obtain⟨P,J⟩:∃P,P=w.heap.size:=⟨_,rfl⟩;obtain⟨y,E⟩:∃y,y=w.alloc (.cells Tryz.zeroCells165 165):=⟨_,rfl⟩;have C:Below w.heap.size w y:=by rw[E];exact (Zk _ _).alloc (Zx _) _
 have H:y.heap[P]? =some (.cells Tryz.zeroCells165 165 (0,0)):=by rw[E,J];exact heap_alloc_new w _
 obtain⟨pa,pc,dk,_⟩:=h.c;obtain⟨Dd,f3⟩:=h.fd;obtain⟨Dn,f4⟩:=h.fn;have N:=Zaa dk.Au;have aj:=f3.lt;have au:=f4.lt
 have A:=Zz (show ∀wx v1,Below y.heap.size y wx->Calls prog 79 #[Bw D,v1, .func (.func 81) #[.pointer (some ⟨P,4,none⟩)] #[]] wx fun x w'=>x= .returned (.tuple #[Jl D, .nilIface])/\(∃B ob,XD w w' R D bd bn P B ob d e2)/\∀k cs,w.heap.size<=k->wx.heap[k]? =some (.cells cs 148 (0,0))->w'.heap[k]? =some (.cells cs 148 (0,0))/\k≠P from fun wx v1 O=>by
  have m:Below w.heap.size w wx:=C.trans (O.mono C.size);have n:=(O.block P (Zaa H)).trans H;have av:P≠D/\P≠bd/\P≠bn:=by omega
  refine (Qu wx R D bd bn M P d v1 p e2 (h.below m) hw Q X hn hr W AQ hlen ⟨_,n⟩ (fun j v hj=>GJ (j:=4+j) n (by rw[List.getElem?_append_right (by simp)];simpa using hj)) av (hT.at_ (m.block _ (by omega))) (by omega) (fun o=>by simp[World.frozen?,n]) hs Y hM (fun i hi=>cell_later m (V i hi)) T).mono ?_;rintro x w' ⟨rfl,B,ob,x1,x2,x3,x4,x5,x6,x7,x8,y1,y2,y3,y4⟩;refine⟨rfl,⟨B,ob,x1,x2,x4,x5,x6,fun o u=> ?_,x8,⟨y1.trans m.os,y2.trans m.tape,y3.trans m.output,by have:=m.size;omega,fun k U a1 a2 a3 a4=>(y4 k (by have:=m.size;omega) (by omega) a1 a2 a3 (a4.imp id fun g cs fr e=>g cs fr ((m.block k U).symm.trans e))).trans (m.block k U)⟩,by have:=m.size;omega⟩,fun k cs U s=>⟨(y4 k (Zaa s) (Zai s n (by decide)) (by omega) (by omega) (by omega) (Zj fun ae ag e'=>by rw[s] at e';simp only[Option.some.injEq,Obj.cells.injEq] at e';exact absurd e'.2.1 (by decide))).trans s,Zai s n (by decide)⟩⟩;rw[x7 o u]
  match o,u with
  | 0,_=>exact GJ n rfl
  | 1,_=>exact GJ n rfl
  | 2,_=>exact GJ n rfl
  | 3,_=>exact GJ n rfl)
 have F:=Zz (Zq E (Zq J C));have L:=Zz N;have az:∀(fn:Fn) (first cap:Array Value) (w:World),(Instr.makeFunc fn first cap).run prog w= .ok (.func fn first cap) w:=fun _ _ _ _=>rfl;unfold Jl at A;unfold Bw at A;unfold Bw;clear h hw Q hn hs Y hM V T J E C H dk f3 f4 N aj au X hr W AQ hlen hT al
 go_enter func35,ntmps35
 go_upto_region 3 with fail
 go_upto_region 4 with fail
 rw[<-F.o.1,<-F.o.2.1]
 go_cut [5,6] from 12 to 24 (fun lv ev wc=>∃lb,lv= .pointer (some ⟨lb,0,none⟩)/\ev= .nilIface/\OpL w wc R D bd bn P lb d e2)
 case first =>
  go_region_with (go_at_call 79;first
   | (refine (A.o y.drew _ ((Zk _ _).drew)).mono ?_;rintro _ w3 ⟨rfl,q1,q4⟩;have K:=Zz q1;clear q1 q4)
   | (refine (A.o _ _ (((Zk _ _).alloc (Zx _) _).drew)).mono ?_;rintro _ w3 ⟨rfl,q1,q4⟩;have I:=q4 y.heap.size _ F.o.2.2.size (heap_alloc_new y _);have q6:∀o,w3.frozen? ⟨y.heap.size,o,none⟩=false:=(fun o=>by simp[World.frozen?,I.1]);have y0:=Zad I.1 0;have y1:=Zad I.1 1;have y2:=Zad I.1 2;have y3:=Zad I.1 3;have g0:=q6 0;have g1:=q6 1;have g2:=q6 2;have g3:=q6 3;have K:=Zz (Zq q1 I);clear q1 q4 I q6))
  all_goals go_wp2_with fail
  all_goals go_meet
  all_goals first
   | (have z:=K.o.2.1;exact⟨_,rfl,rfl,OpL.old K.o.1 z K.o.2.2 F.o.2.2.size L.o⟩)
   | exact⟨_,rfl,rfl,OpL.new F.o.2.1 F.o.2.2 K.o⟩
 case rest =>
  obtain⟨lb,rfl,rfl,f⟩:=hcut;obtain⟨q,ay,B,ob,f⟩:=f;unfold Bw at q;have e0:=Zad q 0;have e1:=Zad q 1;have ax:=Zad q 2;have e3:=Zad q 3;have z0:=f.z 0 (by omega);have z1:=f.z 1 (by omega);have z2:=f.z 2 (by omega);have z3:=f.z 3 (by omega);have g0:=f.fz 0;have g1:=f.fz 1;have g2:=f.fz 2;have g3:=f.fz 3;obtain⟨cs,t,fr,r⟩:=UI z0;have HP:=Zz (Zq f r);clear f q r;go_wp2_with fail
  go_ret2
  obtain⟨f,r⟩:=HP.o;have u:=Ax.Iq wc P (Bw D) (.int .i64 0) (.int .i64 0) .nilIface;have Z:=Zab (o:=3) (Zab (o:=2) (Zab (o:=1) (Zab (o:=0) r (Bw D)) (.int .i64 0)) (.int .i64 0)) .nilIface;obtain⟨rs,l,U,ht⟩:=f.kp;have g:∀a b:Nat,a≠b->(⟨P,a,none⟩:Addr)≠⟨P,b,none⟩:=fun a b h x=>h (by cases x;rfl)
  have J:=F.o.2.1
  have aw:∀o,4<=o->((((wc.setCell ⟨P,0,none⟩ (Bw D)).setCell ⟨P,1,none⟩ (.int .i64 0)).setCell ⟨P,2,none⟩ (.int .i64 0)).setCell ⟨P,3,none⟩ .nilIface).cell? ⟨P,o,none⟩=wc.cell? ⟨P,o,none⟩:=fun o h4=>by
   rw[World.cell?_setCell_other _ _ _ _ (g _ _ (by omega)),World.cell?_setCell_other _ _ _ _ (g _ _ (by omega)),World.cell?_setCell_other _ _ _ _ (g _ _ (by omega)),World.cell?_setCell_other _ _ _ _ (g _ _ (by omega))]
  have S:∀o,((((wc.setCell ⟨P,0,none⟩ (Bw D)).setCell ⟨P,1,none⟩ (.int .i64 0)).setCell ⟨P,2,none⟩ (.int .i64 0)).setCell ⟨P,3,none⟩ .nilIface).frozen? ⟨P,o,none⟩=wc.frozen? ⟨P,o,none⟩:=fun o=>by simp only[World.frozen?,Z,r]
  have q0:=World.cell?_setCell_same _ _ (Bw D) (f.z 0 (by omega));have q1:=World.cell?_setCell_same (wc.setCell ⟨P,0,none⟩ (Bw D)) ⟨P,1,none⟩ (.int .i64 0) ((World.cell?_setCell_other _ _ _ _ (g 0 1 (by decide))).trans (f.z 1 (by omega)));have q2:=World.cell?_setCell_same ((wc.setCell ⟨P,0,none⟩ (Bw D)).setCell ⟨P,1,none⟩ (.int .i64 0)) ⟨P,2,none⟩ (.int .i64 0) (((World.cell?_setCell_other _ _ _ _ (g 1 2 (by decide))).trans (World.cell?_setCell_other _ _ _ _ (g 0 2 (by decide)))).trans (f.z 2 (by omega)));have q3:=World.cell?_setCell_same (((wc.setCell ⟨P,0,none⟩ (Bw D)).setCell ⟨P,1,none⟩ (.int .i64 0)).setCell ⟨P,2,none⟩ (.int .i64 0)) ⟨P,3,none⟩ .nilIface ((((World.cell?_setCell_other _ _ _ _ (g 2 3 (by decide))).trans (World.cell?_setCell_other _ _ _ _ (g 1 3 (by decide)))).trans (World.cell?_setCell_other _ _ _ _ (g 0 3 (by decide)))).trans (f.z 3 (by omega)));refine⟨P,B,ob,rfl,Nat.le_of_eq J.symm,f.pb,Zv f.bs u.size,⟨?_,?_,?_,q3,fun o=>(S o).trans (f.fz o)⟩,⟨rs,l,U.side ⟨u.size,aw,S,fun k ae t' ag G e' _=>u.block k (Zaa e') (by have:=f.pb;omega),fun k es c G e'=>u.block k (Zaa e') (by have:=f.pb;omega)⟩,ht⟩,f.dk _ u.size (fun k G ar _=>u.block k (Zy G f.bs) ar),f.df.Jr u (Nat.le_of_eq J.symm),(World.cell?_of_block (a:=⟨D,2,none⟩) (u.block D (World.block_lt_of_cell? _ _ f.nil) (by have:=L.o;omega))).trans f.nil⟩
  ·rw[World.cell?_setCell_other _ _ _ _ (g 3 0 (by decide)),World.cell?_setCell_other _ _ _ _ (g 2 0 (by decide)),World.cell?_setCell_other _ _ _ _ (g 1 0 (by decide))];exact q0
  ·rw[World.cell?_setCell_other _ _ _ _ (g 3 1 (by decide)),World.cell?_setCell_other _ _ _ _ (g 2 1 (by decide))];exact q1
  ·rw[World.cell?_setCell_other _ _ _ _ (g 3 2 (by decide))];exact q2
end Go.Proofs.YtgdcjccbdmcebaaGreatDoor
