import Derived.Test.YtgdcjccbdmcebaaGreatDoorM29
import Derived.Test.YtgdcjccbdmcebaaGreatDoorM30
set_option linter.all false
set_option maxHeartbeats 8000000
set_option maxRecDepth 100000
open Go.Proofs.Tryz
open Go renaming cell_later->QFa,heap_alloc_new->QFm
open Go.Obj renaming cells.injEq->QIq
open Go.World renaming ownsRow_nil->QEj,frozen?->QHj,cell?_setCell_same->QDz,cell?->QEk,frozen?_of_block->QDx,block_lt_of_cell?->QDv,cell?_setCell_other->QGd,cell?_of_block->QEc
open Nat renaming le_of_eq->QJx,zero_le->QBp
open Option renaming some.injEq->QCf
namespace Go.Proofs.YtgdcjccbdmcebaaGreatDoor
open Go.RowKit
attribute [local go_sem ↓] Go.wp_at_zero Go.wp_at_succ
variable {qh n bd bn:Nat}{ob:Option Nat}{w:World}{e2:Ab}{f:Nat->Nat}{l:List Int}{d:Ax}{cs:Array Value}
def LopS (qh:Nat)(w w':World)(R D bd bn P:Nat)(d:Ax)(e2:Ab):Prop:=∃B ob,P<B/\B<=w'.heap.size/\w.heap.size<=B/\BE qh w' P B ob e2/\(∀w2:World,w'.heap.size<=w2.heap.size->(∀k,k<B->k≠P->(∀cs fr,w'.heap[k]? ≠some (.cells cs 148 fr))->w2.heap[k]? =w'.heap[k]?)->Av w2 R D bd bn d.synced)/\w'.cell? ⟨D,2,none⟩=some (.slice none 0 0)/\(∀o,o<4->w'.cell? ⟨P,o,none⟩=w.cell? ⟨P,o,none⟩)/\(∀o,w'.frozen? ⟨P,o,none⟩=false)/\w'.os=w.os/\w'.tape=w.tape/\w'.output=w.output/\∀k,k<w.heap.size->k≠P->k≠D->k≠bd->k≠bn->(k<R\/∀cs fr,w.heap[k]? ≠some (.cells cs 210 fr))->w'.heap[k]? =w.heap[k]?
theorem Qo (w:World)(R D bd bn M P:Nat)(d:Ax)(v1:Value)(g:List (List Int))(e2:Ab)(h:Av w R D bd bn d)(hw:d.Bz=0)(cr:d.synced.down=false)(da:d.synced.now 0=some (g.flatMap Zar))(hn:∀i,1<=i->i<3->d.synced.now i=none)(hr:Da Za1 g e2)(L:∀l∈g,Gz l)(AZ:Az e2)(hlen:(g.flatMap Zar).length<=1000000000000)(E:∃cs,w.heap[P]? =some (.cells cs 165 (0,0)))(S:∀j v,GH[j]? =some v->w.cell? ⟨P,4+j,none⟩=some v)(s:P≠D/\P≠bd/\P≠bn)(hT:AP w)(W:4<P)(K:∀o,w.frozen? ⟨P,o,none⟩=false)(hs:Hs d.CH M)(db:∀o∈d.Ap,o.data.length<=M)(hM:M<=1099511627776)(cy:Za4 w)(Z:4<D/\4<bd/\4<bn/\4<R)(hq:qh<w.heap.size) :
  Calls prog 79 #[By D,v1,.func (.func 81) #[.pointer (some ⟨P,4,none⟩)] #[]] w fun x w'=>x=.returned (.tuple #[Jn D,.nilIface])/\LopS qh w w' R D bd bn P d e2:=by
 have HQ:=Zz hq;clear hq;obtain⟨rb,bp⟩:∃rb,rb=w.heap.size:=⟨_,rfl⟩;obtain⟨w1,au⟩:∃w1,w1=w.alloc (.cells #[.nilIface,.int .i64 0,.int .i64 0,.nilIface] 148):=⟨_,rfl⟩;have X:ZY w w1:=by rw[au];exact ZV.alloc ZU _
 have ag:w1.heap[rb]? =some (.cells #[.nilIface,.int .i64 0,.int .i64 0,.nilIface] 148 (0,0)):=by rw[au,bp];exact QFm w _
 have h1:=h.below X;obtain⟨pa,pc,dk,_⟩:=h.c;obtain⟨Dd,f3⟩:=h.fd;obtain⟨Dn,f4⟩:=h.fn;have dr:=Zaa dk.Au;have ee:=f3.lt;have ez:=f4.lt
 have dh:=Zz (show Calls prog 320 #[.pointer (some ⟨D,0,none⟩)] w1 fun x w'=>x=.returned .nilIface/\Av w' R D bd bn d.synced/\DF w1 w' R D bd bn/\w'.heap[rb]? =some (.cells #[.nilIface,.int .i64 0,.int .i64 0,.nilIface] 148 (0,0))/\Za4 w'/\w'.cell? ⟨D,2,none⟩=some (.slice none 0 0) from by
  refine (Ic w1 R D bd bn M d h1 hs db hM).mono ?_;rintro x w' ⟨rfl,q1,q2,q9⟩;rw[hw,Zaw];refine⟨rfl,q1,q2,(q2.block rb (Zaa ag) (by omega) (by omega) (by omega) (Zj fun H I e'=>by rw[ag] at e';simp only[QCf,QIq] at e';exact absurd e'.2.1 (by decide))).trans ag,fun i hi=> ?_,q9 hw⟩;have hz:=QFa X (cy i hi);have dy:1<w1.heap.size:=QDv _ _ hz;exact (QEc (a:=⟨1,i,none⟩) (q2.block 1 dy (by omega) (by omega) (by omega) (Zu (by omega)))).trans hz)
 have p:BC (g.flatMap Zar):=fun x hx=>by
  obtain⟨l,hl,fj⟩:=List.mem_flatMap.1 hx;exact Oe (L l hl).byte x fj
 have bf:=Zz (show ∀T,Av T R D bd bn d.synced->Za4 T->Calls prog 120 #[By D] T fun x w'=>∃b c,x=.returned (.tuple #[LA b (g.flatMap Zar).length c,.nilIface])/\Fy T w' b c (g.flatMap Zar) from fun T hx hy=>Ll T R D bd bn d.synced _ hx cr da hn p hlen hy);have HR:=Zz (Zq au (Zq bp X));have hm:=Qr;unfold LA By at bf;obtain⟨ln,J⟩:∃ln,ln=(g.flatMap Zar).length:=⟨_,rfl⟩;rw[<-J] at bf;have ck:=Zz (show Da Za1 g e2/\(∀l∈g,Gz l)/\Az e2/\(g.flatMap Zar).length<=1000000000000/\(∃cs,w.heap[P]? =some (.cells cs 165 (0,0)))/\(∀j v,GH[j]? =some v->w.cell? ⟨P,4+j,none⟩=some v)/\(P≠D/\P≠bd/\P≠bn)/\AP w/\(4<D/\4<bd/\4<bn/\4<R)/\ln=(g.flatMap Zar).length/\4<P/\(∀o,w.frozen? ⟨P,o,none⟩=false) from⟨hr,L,AZ,hlen,E,S,s,hT,Z,J,W,K⟩);unfold By;clear h hw cr hn hs db hM cy Z bp au X ag h1 dk f3 f4 dr ee ez da hr L AZ hlen E S s hT p J W K
 go_enter func79,ntmps79
 go_upto_region 1 with fail
 rw[<-HR.o.1,<-HR.o.2.1]
 go_upto_region 9 with (first
  | (go_at_call 320;refine dh.o.mono ?_;rintro _ T ⟨rfl,q1,q2,q3,q4,q5⟩;have U:=Zz (Zq q1 (Zq q2 (Zq q3 (Zq q4 q5))));clear q1 q2 q3 q4 q5)
  | (go_at_call 120;refine (bf.o T U.o.1 U.o.2.2.2.1).mono ?_;rintro _ w3 ⟨nb,nc,rfl,C⟩;have cu:=(C.2.2.2.block rb (Zaa U.o.2.2.1)).trans U.o.2.2.1;have H3:=Zz (Zq C.2.2.2 (Zq cu C));clear C cu))
 obtain⟨fb,Y⟩:∃fb,fb=w3.heap.size:=⟨_,rfl⟩;obtain⟨w4,aw⟩:∃w4,w4=w3.alloc (.cells #[.int .i64 0,.slice none 0 0,.slice (some ⟨nb,0,none⟩) ln nc] 220):=⟨_,rfl⟩;rw[<-aw,<-Y];have B:ZY w3 w4:=by rw[aw];exact ZV.alloc ZU _
 have aj:=(B.block rb (Zaa H3.o.2.1)).trans H3.o.2.1;have N:w4.heap[fb]? =some (.cells #[.int .i64 0,.slice none 0 0,.slice (some ⟨nb,0,none⟩) ln nc] 220 (0,0)):=by rw[aw,Y];exact QFm w3 _
 have z0:=Zae N 0;have z2:=Zae N 2
 have bw:=Zz (show ((∀wx,ZY w4 wx->Calls prog 121 #[.slice (some ⟨nb,0,none⟩) ln nc,.func (.func 81) #[.pointer (some ⟨P,4,none⟩)] #[]] wx fun x w'=>x=.returned (.int .i64 0)/\w'.heap[rb]? =some (.cells #[.nilIface,.int .i64 0,.int .i64 0,.nilIface] 148 (0,0))/\w'.heap[fb]? =some (.cells #[.int .i64 0,.slice none 0 0,.slice (some ⟨nb,0,none⟩) ln nc] 220 (0,0))/\∃wy,ZY w4 wy/\Js qh wy w' P w4.heap.size none e2))/\(DF w w4 R D bd bn/\P<w4.heap.size/\P<w.heap.size/\P≠rb/\w4.heap[P]? =w.heap[P]?) from by
  obtain⟨hr,L,AZ,hlen,⟨fm,E⟩,S,s,hT,Z,J,W,K⟩:=ck.o;have m:DF w w4 R D bd bn:=(((DF.Ae R D bd bn HR.o.2.2).trans U.o.2.1).trans (DF.Ae R D bd bn H3.o.1)).trans (DF.Ae R D bd bn B);have F:w4.heap[P]? =w.heap[P]? :=m.block P (Zaa E) s.1 s.2.1 s.2.2 (Zj fun cs fr e=>by rw[E] at e;simp only[QCf,QIq] at e;exact absurd e.2.1 (by decide));have bh:=Zaa E;have u:P<w4.heap.size:=Zy bh m.size;have fe:=HR.o.2.1;have ep:BE qh w4 P w4.heap.size none Za1:=Vq (fun j v hj=>(QEc (a:=⟨P,4+j,none⟩) F).trans (S j v hj)) (fun o=>(QDx (a:=⟨P,o,none⟩) F).trans (K o)) u ZU (Zy HQ.o m.size);have fh:2<w.heap.size:=by omega
  have dd:AP w4:=hT.at_ (m.block 2 fh (by omega) (by omega) (by omega) (Zu (by omega)));have fg:RvN w4 P w4.heap.size:=⟨u,Zx _,dd,by have:=m.size;omega,by omega⟩;have C:=H3.o.2.2;have ey:nb≠P:=by have:=C.2.2.1;have:=U.o.2.1.size;have:=HR.o.2.2.size;omega
  refine⟨fun wx y=> ?_,m,u,bh,by omega,F⟩;have hu:RY wx P nb:=⟨ey,by obtain⟨cs,fr,e⟩:=C.2.1;exact⟨cs,fr,(y.block nb (Zy (Zaa e) B.size)).trans ((B.block nb (Zaa e)).trans e)⟩⟩;have:=Pf wx P w4.heap.size nb 0 nc none Za1 e2 g (ep.below y) Fk ⟨by decide,by decide⟩ AZ hr L (fg.kf (KF.Ae P w4.heap.size none y)) hu ((C.1.below B).below y) hlen;rw[<-J] at this;refine this.mono ?_;rintro x w' ⟨rfl,h5⟩;obtain⟨br,bo,r,cz⟩:=h5;have al:=Zaa aj;have bj:=Zaa N;have eg:fb≠P:=by have:=Y;have:=H3.o.1.size;have:=U.o.2.1.size;have:=HR.o.2.2.size;omega
  exact⟨rfl,(r.block rb (Zy al y.size) (by omega) (Zu al)).trans ((y.block rb al).trans aj),(r.block fb (Zy bj y.size) eg (Zu bj)).trans ((y.block fb bj).trans N),wx,y,br,bo,r,cz⟩)
 have de:=Zz (show Av w4 R D bd bn d.synced/\w4.cell? ⟨D,2,none⟩=some (.slice none 0 0)/\w4.heap[rb]? =some (.cells #[.nilIface,.int .i64 0,.int .i64 0,.nilIface] 148 (0,0)) from⟨(U.o.1.below H3.o.1).below B,QFa B (QFa H3.o.1 U.o.2.2.2.2),aj⟩)
 have ax:=Zz (show ∀A:World,(A.heap[rb]? =some (.cells #[.nilIface,.int .i64 0,.int .i64 0,.nilIface] 148 (0,0))/\∃wy,ZY w4 wy/\Js qh wy A P w4.heap.size none e2)->(loadVar 148 ⟨rb,0,none⟩).run prog ((((A.setCell ⟨rb,0,none⟩ (By D)).setCell ⟨rb,1,none⟩ (.int .i64 0)).setCell ⟨rb,2,none⟩ (.int .i64 0)).setCell ⟨rb,3,none⟩ .nilIface)=.ok (Jn D) ((((A.setCell ⟨rb,0,none⟩ (By D)).setCell ⟨rb,1,none⟩ (.int .i64 0)).setCell ⟨rb,2,none⟩ (.int .i64 0)).setCell ⟨rb,3,none⟩ .nilIface)/\LopS qh w ((((A.setCell ⟨rb,0,none⟩ (By D)).setCell ⟨rb,1,none⟩ (.int .i64 0)).setCell ⟨rb,2,none⟩ (.int .i64 0)).setCell ⟨rb,3,none⟩ .nilIface) R D bd bn P d e2 from fun A ⟨q,wy,p,br,bo,r,cz⟩=>by
  have ay:((((A.setCell ⟨rb,0,none⟩ (By D)).setCell ⟨rb,1,none⟩ (.int .i64 0)).setCell ⟨rb,2,none⟩ (.int .i64 0)).setCell ⟨rb,3,none⟩ .nilIface).heap[rb]? =some (.cells #[By D,.int .i64 0,.int .i64 0,.nilIface] 148 (0,0)):=by
   rw[Zab (Zab (Zab (Zab q _) _) _) _];rfl
  have Q:AA A ((((A.setCell ⟨rb,0,none⟩ (By D)).setCell ⟨rb,1,none⟩ (.int .i64 0)).setCell ⟨rb,2,none⟩ (.int .i64 0)).setCell ⟨rb,3,none⟩ .nilIface) rb:=AA.Jo A rb _ _ _ _;refine⟨Rs ay,?_⟩;clear ay;obtain⟨w9,fi⟩:∃w9,w9=((((A.setCell ⟨rb,0,none⟩ (By D)).setCell ⟨rb,1,none⟩ (.int .i64 0)).setCell ⟨rb,2,none⟩ (.int .i64 0)).setCell ⟨rb,3,none⟩ .nilIface):=⟨_,rfl⟩;rw[<-fi] at Q ⊢;obtain⟨_,m,u,bh,dw,F⟩:=bw.o;obtain⟨ae,dj,G⟩:=de.o;obtain⟨hr,L,AZ,hlen,⟨fm,E⟩,S,s,hT,Z,J,W,K⟩:=ck.o;have al:=Zaa G;have fe:=HR.o.2.1;have ar:w4.heap.size<=A.heap.size:=Zv p.size r.size;have du:P<A.heap.size:=Zy u ar;have cq:P<wy.heap.size:=Zy u p.size;have Ak:∀k,k<w4.heap.size->k≠P->k≠rb->w9.heap[k]? =w4.heap[k]? :=fun k hk h1 h2=>(Q.block k (Zy hk ar) h2).trans ((r.block k (Zy hk p.size) h1 (Zu hk)).trans (p.block k hk));have V:=Q.block P du dw;obtain⟨pa,pc,dk,_⟩:=ae.c;obtain⟨Dd,g3⟩:=ae.fd;obtain⟨Dn,g4⟩:=ae.fn
  have hm:∀bm f Dx,AE w4 bm f Dx->bm≠rb:=fun bm f Dx hx e2=>by
   obtain⟨es,c,e3,_⟩:=hx.own;rw[e2,G] at e3;cases e3
  have cm:=Zah dk.Au G (by decide);have dp:=Ak D (Zaa dk.Au) (Ne.symm s.1) cm;obtain⟨rs,l,hx,ht⟩:=bo;refine⟨w4.heap.size,br,u,Zv ar Q.size,m.size,⟨rs,l,hx.side ⟨Q.size,fun o _=>QEc (a:=⟨P,o,none⟩) V,fun o=>QDx (a:=⟨P,o,none⟩) V,fun k cs t fr hk e _=>Q.block k (Zaa e) (by omega),fun k es c hk e=>Q.block k (Zaa e) (by omega)⟩,ht⟩,?_,(QEc (a:=⟨D,2,none⟩) dp).trans dj,fun o h4=> ?_,fun o=> ?_,Q.os.trans (r.os.trans (p.os.trans m.os)),Q.tape.trans (r.tape.trans (p.tape.trans m.tape)),Q.output.trans (r.output.trans (p.output.trans m.output)),fun k hk a0 a1 a2 a3 a4=>(Ak k (Zy hk m.size) a0 (by omega)).trans (m.block k hk a1 a2 a3 a4)⟩
  .intro T dc ei
   have z:∀k,k<w4.heap.size->k≠P->k≠rb->(∀cs fr,w4.heap[k]? ≠some (.cells cs 148 fr))->T.heap[k]? =w4.heap[k]? :=fun k h1 h2 h3 h4=>(ei k h1 h2 (fun cs fr e=>h4 cs fr ((Ak k h1 h2 h3).symm.trans e))).trans (Ak k h1 h2 h3)
   have az:∀(k:Nat) (cs:Array Value) (t:TypeId) (fr:Nat×Nat),w4.heap[k]? =some (.cells cs t fr)->t≠148->∀H I,w4.heap[k]? ≠some (.cells H 148 I):=fun k cs t fr e ht H I e'=>by
    rw[e] at e';simp only[QCf,QIq] at e';exact ht e'.2.1
   have notM:∀bm f Dx,AE w4 bm f Dx->∀H I,w4.heap[bm]? ≠some (.cells H 148 I):=fun bm f Dx hx H I e'=>by
    obtain⟨es,c,e3,_⟩:=hx.own;rw[e3] at e';cases e'
   exact ae.Ak (Zv (Zv ar Q.size) dc) (z D (Zaa dk.Au) (Ne.symm s.1) cm (az _ _ _ _ dk.Au (by decide))) (z bd g3.lt (Ne.symm s.2.1) (hm _ _ _ g3) (notM _ _ _ g3)) (z bn g4.lt (Ne.symm s.2.2) (hm _ _ _ g4) (notM _ _ _ g4)) (fun k cs t fr e ht=>z k (Zaa e) (Zah e (F.trans E) (by rcases ht with rfl | rfl<;>decide)) (Zah e G (by rcases ht with rfl | rfl<;>decide)) (az _ _ _ _ e (by rcases ht with rfl | rfl<;>decide)))
  .exact (QEc (a:=⟨P,o,none⟩) V).trans ((r.off cq o h4).trans ((QEc (a:=⟨P,o,none⟩) (p.block P u)).trans (QEc (a:=⟨P,o,none⟩) F)))
  .exact (QDx (a:=⟨P,o,none⟩) V).trans ((r.AD cq o).trans ((QDx (a:=⟨P,o,none⟩) (p.block P u)).trans ((QDx (a:=⟨P,o,none⟩) F).trans (K o)))))
 unfold By at ax;clear B aj N aw Y
 go_region_with (go_at_call 121;refine (bw.o.1 _ (ZV.drew)).mono ?_;rintro _ A ⟨rfl,q,O,h5⟩;have z0:=Zae O 0;have z2:=Zae O 2;have y0:=Zae q 0;have y1:=Zae q 1;have y2:=Zae q 2;have y3:=Zae q 3;have f0:A.frozen? ⟨rb,0,none⟩=false:=(by simp[QHj,q]);have f1:A.frozen? ⟨rb,1,none⟩=false:=(by simp[QHj,q]);have f2:A.frozen? ⟨rb,2,none⟩=false:=(by simp[QHj,q]);have f3:A.frozen? ⟨rb,3,none⟩=false:=(by simp[QHj,q]);have H5:=Zz (Zq q h5);clear q h5 O)
 all_goals go_wp2_with fail
 all_goals
  have hz:=ax.o _ H5.o;refine bodyPost_ret (v:=.tuple #[Jn D,.nilIface]) (by rw[results_cell_tmp rfl];simp[Result.andThen,asAddr,hz.1,Act.put]) rfl ⟨rfl,hz.2⟩
structure Xq (qh:Nat)(w w':World)(R D bd bn P B:Nat)(ob:Option Nat)(d:Ax)(e2:Ab):Prop where
 pb:P<B
 bs:B<=w'.heap.size
 kp:BE qh w' P B ob e2
 dk:∀w2:World,w'.heap.size<=w2.heap.size->(∀k,k<B->k≠P->(∀cs fr,w'.heap[k]? ≠some (.cells cs 148 fr))->w2.heap[k]? =w'.heap[k]?)->Av w2 R D bd bn d.synced
 nil:w'.cell? ⟨D,2,none⟩=some (.slice none 0 0)
 z:∀o,o<4->w'.cell? ⟨P,o,none⟩=[Value.nilIface,.int .i64 0,.int .i64 0,.nilIface][o]?
 fz:∀o,w'.frozen? ⟨P,o,none⟩=false
 df:DF w w' R D bd bn
 wb:w.heap.size<=B
theorem Xq.below {w' wx:World}{R D P B:Nat}(h:Xq qh w w' R D bd bn P B ob d e2)(hb:ZY w' wx):Xq qh w wx R D bd bn P B ob d e2:=by
 have j:P<w'.heap.size:=Zy h.pb h.bs;have e:=hb.block P j;refine⟨h.pb,Zv h.bs hb.size,h.kp.below hb,fun p g i=>h.dk p (Zv hb.size g) fun k hk b hl=> ?_,QFa hb h.nil,fun o m=>(QEc (a:=⟨P,o,none⟩) e).trans (h.z o m),fun o=>(QDx (a:=⟨P,o,none⟩) e).trans (h.fz o),h.df.trans (DF.Ae R D bd bn hb),h.wb⟩;have c:=hb.block k (Zy hk h.bs);exact (i k hk b fun cs fr x=>hl cs fr (c.symm.trans x)).trans c
theorem Xq.log {w' wx:World}{R D P B i:Nat}(h:Xq qh w w' R D bd bn P B ob d e2)(g:AA w' wx i)(hl:w'.heap[i]? =some (.cells cs 148 (0,0)))(J:∃q,wx.heap[i]? =some (.cells q 148 (0,0)))(F:P≠i)(hw:w.heap.size<=i)(I:D<w.heap.size):Xq qh w wx R D bd bn P B ob d e2:=by
 have s:P<w'.heap.size:=Zy h.pb h.bs;have e:=g.block P s F;obtain⟨rs,l,hk,G⟩:=h.kp;refine⟨h.pb,Zv h.bs g.size,⟨rs,l,hk.side ⟨g.size,fun o _=>QEc (a:=⟨P,o,none⟩) e,fun o=>QDx (a:=⟨P,o,none⟩) e,fun k j t fr b e' p=>g.block k (Zaa e') (Zah e' hl (fun x=>by subst x;unfold Rb at p;revert p;decide)),fun k es c b e'=>g.block k (Zaa e') (fun x=>by rw[x,hl] at e';cases e')⟩,G⟩,fun H A C=>h.dk H (Zv g.size A) fun k b u m=> ?_,(QEc (a:=⟨D,2,none⟩) (g.block D (QDv _ _ h.nil) (by omega))).trans h.nil,fun o E=>(QEc (a:=⟨P,o,none⟩) e).trans (h.z o E),fun o=>(QDx (a:=⟨P,o,none⟩) e).trans (h.fz o),h.df.GJ g hw,h.wb⟩;have v:k≠i:=fun x=>m cs (0,0) (by rw[x];exact hl)
 have y:=g.block k (Zy b h.bs) v;exact (C k b u fun j r x=>m j r (y.symm.trans x)).trans y
def OpL (qh:Nat)(w wc:World)(R D bd bn P lb:Nat)(d:Ax)(e2:Ab):Prop:=wc.heap[lb]? =some (.cells #[By D,.int .i64 0,.int .i64 0,.nilIface] 148 (0,0))/\lb≠P/\∃B ob,Xq qh w wc R D bd bn P B ob d e2
theorem UA {b o:Nat}{v:Value}(h:w.cell? ⟨b,o,none⟩=some v):∃cs t fr,w.heap[b]? =some (.cells cs t fr):=by
 unfold QEk at h
 split at h
 .exact⟨_,_,_,‹_›⟩
 .simp at h
theorem OpL.new {c a:World}{R D P:Nat}(e:P=w.heap.size)(b:ZY w c)(h:∃B ob,Xq qh w a R D bd bn P B ob d e2):OpL qh w (a.alloc (.cells #[By D,.int .i64 0,.int .i64 0,.nilIface] 148)) R D bd bn P a.heap.size d e2:=by
 obtain⟨B,ob,h⟩:=h;exact⟨QFm _ _,by have:=h.pb;have:=h.bs;omega,B,ob,h.below (ZV.alloc ZU _)⟩
theorem OpL.old {c:World}{R D P a:Nat}(h:∃B ob,Xq qh w c R D bd bn P B ob d e2)(hl:c.heap[a]? =some (.cells #[.nilIface,.int .i64 0,.int .i64 0,.nilIface] 148 (0,0)))(e:a≠P)(hw:w.heap.size<=a)(g:D<w.heap.size):OpL qh w ((((c.setCell ⟨a,0,none⟩ (By D)).setCell ⟨a,1,none⟩ (.int .i64 0)).setCell ⟨a,2,none⟩ (.int .i64 0)).setCell ⟨a,3,none⟩ .nilIface) R D bd bn P a d e2:=by
 obtain⟨B,ob,h⟩:=h;have i:=AA.Jo c a (By D) (.int .i64 0) (.int .i64 0) .nilIface
 have b:((((c.setCell ⟨a,0,none⟩ (By D)).setCell ⟨a,1,none⟩ (.int .i64 0)).setCell ⟨a,2,none⟩ (.int .i64 0)).setCell ⟨a,3,none⟩ .nilIface).heap[a]? =some (.cells #[By D,.int .i64 0,.int .i64 0,.nilIface] 148 (0,0)):=by
  rw[Zab (Zab (Zab (Zab hl _) _) _) _];rfl
 exact⟨b,e,B,ob,h.log i hl ⟨_,b⟩ (Ne.symm e) hw g⟩
theorem PM (w:World)(R D bd bn M:Nat)(d:Ax)(r:List (List Int))(e2:Ab)(h:Av w R D bd bn d)(hw:d.Bz=0)(T:d.synced.down=false)(Y:d.synced.now 0=some (r.flatMap Zar))(hn:∀i,1<=i->i<3->d.synced.now i=none)(hr:Da Za1 r e2)(X:∀l∈r,Gz l)(AZ:Az e2)(hlen:(r.flatMap Zar).length<=1000000000000)(hT:AP w)(ar:4<w.heap.size)(hs:Hs d.CH M)(Z:∀o∈d.Ap,o.data.length<=M)(hM:M<=1099511627776)(W:Za4 w)(V:4<D/\4<bd/\4<bn/\4<R)(hq:qh<w.heap.size) :
  Calls prog 35 #[By D] w fun x w'=>∃P B ob,x=.returned (.tuple #[.pointer (some ⟨P,0,none⟩),.nilIface])/\w.heap.size<=P/\P<B/\B<=w'.heap.size/\Bs w' P D ⟨0,0,0⟩/\BE qh w' P B ob e2/\Av w' R D bd bn d.synced/\DF w w' R D bd bn/\w'.cell? ⟨D,2,none⟩=some (.slice none 0 0):=by
 have HQ:=Zz hq;clear hq;obtain⟨P,L⟩:∃P,P=w.heap.size:=⟨_,rfl⟩;obtain⟨G,F⟩:∃G,G=w.alloc (.cells Tryz.zeroCells165 165):=⟨_,rfl⟩;have E:ZY w G:=by rw[F];exact ZV.alloc ZU _
 have J:G.heap[P]? =some (.cells Tryz.zeroCells165 165 (0,0)):=by rw[F,L];exact QFm w _
 obtain⟨pa,pc,dk,_⟩:=h.c;obtain⟨Dd,f3⟩:=h.fd;obtain⟨Dn,f4⟩:=h.fn;have Q:=Zaa dk.Au;have al:=f3.lt;have aw:=f4.lt
 have C:=Zz (show ∀wx v1,ZY G wx->Calls prog 79 #[By D,v1,.func (.func 81) #[.pointer (some ⟨P,4,none⟩)] #[]] wx fun x w'=>x=.returned (.tuple #[Jn D,.nilIface])/\(∃B ob,Xq qh w w' R D bd bn P B ob d e2)/\∀k cs,w.heap.size<=k->wx.heap[k]? =some (.cells cs 148 (0,0))->w'.heap[k]? =some (.cells cs 148 (0,0))/\k≠P from fun wx v1 S=>by
  have p:ZY w wx:=E.trans (S.mono E.size);have q:=(S.block P (Zaa J)).trans J;have ax:P≠D/\P≠bd/\P≠bn:=by omega
  refine (Qo wx R D bd bn M P d v1 r e2 (h.below p) hw T Y hn hr X AZ hlen ⟨_,q⟩ (fun j v hj=>GI (j:=4+j) q (by rw[List.getElem?_append_right (by simp)];simpa using hj)) ax (hT.at_ (p.block _ (by omega))) (by omega) (fun o=>by simp[QHj,q]) hs Z hM (fun i hi=>QFa p (W i hi)) V (Zy HQ.o p.size)).mono ?_;rintro x w' ⟨rfl,B,ob,x1,x2,x3,x4,x5,x6,x7,x8,y1,y2,y3,y4⟩;refine⟨rfl,⟨B,ob,x1,x2,x4,x5,x6,fun o A=> ?_,x8,⟨y1.trans p.os,y2.trans p.tape,y3.trans p.output,by have:=p.size;omega,fun k hk a1 a2 a3 a4=>(y4 k (by have:=p.size;omega) (by omega) a1 a2 a3 (a4.imp id fun m cs fr e=>m cs fr ((p.block k hk).symm.trans e))).trans (p.block k hk)⟩,by have:=p.size;omega⟩,fun k cs hk y=>⟨(y4 k (Zaa y) (Zah y q (by decide)) (by omega) (by omega) (by omega) (Zj fun ag aj e'=>by rw[y] at e';simp only[QCf,QIq] at e';exact absurd e'.2.1 (by decide))).trans y,Zah y q (by decide)⟩⟩;rw[x7 o A]
  match o,A with
  | 0,_=>exact GI q rfl
  | 1,_=>exact GI q rfl
  | 2,_=>exact GI q rfl
  | 3,_=>exact GI q rfl)
 have H:=Zz (Zq F (Zq L E));have O:=Zz Q;have bh:∀(fn:Fn) (first cap:Array Value) (w:World),(Instr.makeFunc fn first cap).run prog w=.ok (.func fn first cap) w:=fun _ _ _ _=>rfl;unfold Jn at C;unfold By at C;unfold By;clear h hw T hn hs Z hM W V L F E J dk f3 f4 Q al aw Y hr X AZ hlen hT ar
 go_enter func35,ntmps35
 go_upto_region 3 with fail
 go_upto_region 4 with fail
 rw[<-H.o.1,<-H.o.2.1]
 go_cut [5,6] from 12 to 24 (fun lv ev wc=>∃lb,lv=.pointer (some ⟨lb,0,none⟩)/\ev=.nilIface/\OpL qh w wc R D bd bn P lb d e2)
 case first =>
  go_region_with (go_at_call 79;first
   | (refine (C.o G.drew _ (ZV.drew)).mono ?_;rintro _ w3 ⟨rfl,q1,q4⟩;have N:=Zz q1;clear q1 q4)
   | (refine (C.o _ _ ((ZV.alloc ZU _).drew)).mono ?_;rintro _ w3 ⟨rfl,q1,q4⟩;have K:=q4 G.heap.size _ H.o.2.2.size (QFm G _);have q6:∀o,w3.frozen? ⟨G.heap.size,o,none⟩=false:=(fun o=>by simp[QHj,K.1]);have y0:=Zae K.1 0;have y1:=Zae K.1 1;have y2:=Zae K.1 2;have y3:=Zae K.1 3;have g0:=q6 0;have g1:=q6 1;have g2:=q6 2;have g3:=q6 3;have N:=Zz (Zq q1 K);clear q1 q4 K q6))
  all_goals go_wp2_with fail
  all_goals go_meet
  all_goals first
   | (have z:=N.o.2.1;exact⟨_,rfl,rfl,OpL.old N.o.1 z N.o.2.2 H.o.2.2.size O.o⟩)
   | exact⟨_,rfl,rfl,OpL.new H.o.2.1 H.o.2.2 N.o⟩
 case rest =>
  obtain⟨lb,rfl,rfl,g⟩:=hcut;obtain⟨s,bf,B,ob,g⟩:=g;unfold By at s;have e0:=Zae s 0;have e1:=Zae s 1;have az:=Zae s 2;have e3:=Zae s 3;have z0:=g.z 0 (by omega);have z1:=g.z 1 (by omega);have z2:=g.z 2 (by omega);have z3:=g.z 3 (by omega);have g0:=g.fz 0;have g1:=g.fz 1;have g2:=g.fz 2;have g3:=g.fz 3;obtain⟨cs,t,fr,u⟩:=UA z0;have HP:=Zz (Zq g u);clear g s u;go_wp2_with fail
  go_ret2
  obtain⟨g,u⟩:=HP.o;have A:=AA.Jo wc P (By D) (.int .i64 0) (.int .i64 0) .nilIface;have ae:=Zab (o:=3) (Zab (o:=2) (Zab (o:=1) (Zab (o:=0) u (By D)) (.int .i64 0)) (.int .i64 0)) .nilIface;obtain⟨rs,l,hk,ht⟩:=g.kp;have m:∀a b:Nat,a≠b->(⟨P,a,none⟩:Addr)≠⟨P,b,none⟩:=fun a b h x=>h (by cases x;rfl)
  have L:=H.o.2.1
  have ay:∀o,4<=o->((((wc.setCell ⟨P,0,none⟩ (By D)).setCell ⟨P,1,none⟩ (.int .i64 0)).setCell ⟨P,2,none⟩ (.int .i64 0)).setCell ⟨P,3,none⟩ .nilIface).cell? ⟨P,o,none⟩=wc.cell? ⟨P,o,none⟩:=fun o h4=>by
   rw[QGd _ _ _ _ (m _ _ (by omega)),QGd _ _ _ _ (m _ _ (by omega)),QGd _ _ _ _ (m _ _ (by omega)),QGd _ _ _ _ (m _ _ (by omega))]
  have U:∀o,((((wc.setCell ⟨P,0,none⟩ (By D)).setCell ⟨P,1,none⟩ (.int .i64 0)).setCell ⟨P,2,none⟩ (.int .i64 0)).setCell ⟨P,3,none⟩ .nilIface).frozen? ⟨P,o,none⟩=wc.frozen? ⟨P,o,none⟩:=fun o=>by simp only[QHj,ae,u]
  have q0:=QDz _ _ (By D) (g.z 0 (by omega));have q1:=QDz (wc.setCell ⟨P,0,none⟩ (By D)) ⟨P,1,none⟩ (.int .i64 0) ((QGd _ _ _ _ (m 0 1 (by decide))).trans (g.z 1 (by omega)));have q2:=QDz ((wc.setCell ⟨P,0,none⟩ (By D)).setCell ⟨P,1,none⟩ (.int .i64 0)) ⟨P,2,none⟩ (.int .i64 0) (((QGd _ _ _ _ (m 1 2 (by decide))).trans (QGd _ _ _ _ (m 0 2 (by decide)))).trans (g.z 2 (by omega)));have q3:=QDz (((wc.setCell ⟨P,0,none⟩ (By D)).setCell ⟨P,1,none⟩ (.int .i64 0)).setCell ⟨P,2,none⟩ (.int .i64 0)) ⟨P,3,none⟩ .nilIface ((((QGd _ _ _ _ (m 2 3 (by decide))).trans (QGd _ _ _ _ (m 1 3 (by decide)))).trans (QGd _ _ _ _ (m 0 3 (by decide)))).trans (g.z 3 (by omega)));refine⟨P,B,ob,rfl,QJx L.symm,g.pb,Zv g.bs A.size,⟨?_,?_,?_,q3,fun o=>(U o).trans (g.fz o)⟩,⟨rs,l,hk.side ⟨A.size,ay,U,fun k ag t' aj I e' _=>A.block k (Zaa e') (by have:=g.pb;omega),fun k es c I e'=>A.block k (Zaa e') (by have:=g.pb;omega)⟩,ht⟩,g.dk _ A.size (fun k I au _=>A.block k (Zy I g.bs) au),g.df.GJ A (QJx L.symm),(QEc (a:=⟨D,2,none⟩) (A.block D (QDv _ _ g.nil) (by have:=O.o;omega))).trans g.nil⟩
  .rw[QGd _ _ _ _ (m 3 0 (by decide)),QGd _ _ _ _ (m 2 0 (by decide)),QGd _ _ _ _ (m 1 0 (by decide))];exact q0
  .rw[QGd _ _ _ _ (m 3 1 (by decide)),QGd _ _ _ _ (m 2 1 (by decide))];exact q1
  .rw[QGd _ _ _ _ (m 3 2 (by decide))];exact q2
open Go.RowKit
def RS.pos:RS->Nat
 | .AB p _=>p
 | .bad _=>0
theorem YL {p v q:Nat}(h:Zci n f p=some (v,q)):q<=p+3:=by
 rcases Ko n f p with⟨_,a⟩ | ⟨_,_,a⟩ | ⟨_,_,_,a⟩ | ⟨_,_,_,a⟩ | ⟨_,_,_,_,a⟩ | ⟨_,_,_,_,a⟩ | ⟨_,_,_,_,a⟩ | ⟨_,_,_,_,_,a⟩ | ⟨_,_,_,_,a⟩<;>rw[a] at h<;>cases h<;>omega
theorem YM (n:Nat)(f:Nat->Nat)(r:RS):(LU n f r).pos<=r.pos+3:=by
 cases r with
 | bad s=>exact QBp _
 | AB p s =>
  cases h:Zci n f p with
  | none=>rw[Zct h];exact QBp _
  | some x=>obtain⟨v,q⟩:=x;rw[Zcd h];exact YL h
theorem MV (n:Nat)(f:Nat->Nat)(r:RS):∀k,(Bd n f k r).pos<=r.pos+3 * k
 | 0=>Zx _
 | k+1=>by
  have a:=MV n f r k;have b:=YM n f (Bd n f k r);show (LU n f (Bd n f k r)).pos<=_;omega
theorem WO (n:Nat)(f:Nat->Nat):∀i,(∀j,j<i->(Zaj n f).an j<=12)->(st n f i).pos<=6+57 * i
 | 0,_=>by
  have:=MV n f (.AB 0 0) 2;show (Bd n f 2 (.AB 0 0)).pos<=_;have e:RS.pos (.AB 0 0)=0:=rfl;omega
 | i+1,h=>by
  have b:=WO n f i (fun j g=>h j (by omega));have a:=h i (by omega)
  replace a:BJ n f (Bd n f 6 (st n f i))<=12:=a
  have c:=MV n f (st n f i) (7+BJ n f (Bd n f 6 (st n f i)));show (VQ n f (st n f i)).pos<=_;unfold VQ;omega
theorem Ye {y:Int}{G:Ad}(h:Co n f 0 y G):n<=700:=by
 rcases h with⟨_,_,h,_⟩ | ⟨_,_,_,_,h,_⟩ | ⟨p,s,b,m,c,_⟩
 .exact absurd h (by decide)
 .exact absurd h (by decide)
 .rcases c with⟨h,_⟩ | ⟨h,_⟩ | ⟨h,_⟩ | ⟨h,_⟩ | ⟨_,_,e,g,_⟩
  .exact absurd h (by decide)
  .exact absurd h (by decide)
  .exact absurd h (by decide)
  .exact absurd h (by decide)
  .have o:=e.n2
   have a:=WO n f (Zaj n f).n (fun j k=>by have:=(g j k).2.Uo;omega);have i:NA n f=st n f (Zaj n f).n:=rfl;rw[<-i,b] at a
   replace a:p<=6+57 * (Zaj n f).n:=a
   omega
theorem Ep {op:Int}(a:0<=op/\op<256)(hn:n<18446744073709551616):Gz (AU op [] n):=by
 have:=Zdj (op:=op) (data:=[]) hn;exact⟨It a Dt,this.1,by have:=this.2;simp only[List.length_nil] at this;omega⟩
theorem Za (hb:BC l)(b:l.length<=700):Gz (AU 1 l 0):=by
 have a:=Zdj (op:=1) (data:=l) (n:=0) (by decide);exact⟨It (by decide) hb,a.1,by omega⟩
theorem Ez.rok {e e':Ab}(h:Ez e l e'):Gz l:=by
 cases h with
 | AM a hb _=>exact Za hb (Ye a)
 | Bl _=>exact Ep (by decide) (by decide)
 | AY hn _=>exact Ep (by decide) hn
 | complete hn _=>exact Ep (by decide) hn
 | fail hn _=>exact Ep (by decide) hn
 | cancel hn _=>exact Ep (by decide) hn
 | tick hn _=>exact Ep (by decide) hn
 | Ar hn=>exact Ep (by decide) hn
theorem Da.rok {e e':Ab}{a:List (List Int)}(h:Da e a e'):∀l∈a,Gz l:=by
 induction h with
 | nil _=>intro l hl;cases hl
 | cons b _ c =>
  intro l hl;rcases List.mem_cons.1 hl with rfl | hl
  .exact b.rok
  .exact c l hl
open Go.RowKit
attribute [local go_sem ↓] Go.wp_at_zero Go.wp_at_succ
theorem Ty (c:Int)(w:World)(g: -9223372036854775808<=c)(a:c<=9223372036854775807) :
  Calls prog 105 #[.int .i64 c,.int .i64 1] w fun e w'=>e=.returned (.int .i64 0)/\w'=w:=by
 by_cases b:c<0
 .go_enter func105,ntmps105
  go_wp2
  go_ret
  exact⟨rfl,rfl⟩
 .go_enter func105,ntmps105
  go_wp2
  go_ret
  exact⟨rfl,rfl⟩
def Jl (f:BI):Ax:=⟨f,f,[],-1,-1,false⟩
theorem Sm (w:World)(R D bd bn:Nat)(kept part:Int)(d:Ax)(h:Av w R D bd bn d)(hp:d.Ap=[])(K: -9223372036854775808<=part/\part<=9223372036854775807) :
  Calls prog 66 #[.pointer (some ⟨D,0,none⟩),.int .i64 kept,.int .i64 part] w fun x w'=>x=.returned (.tuple #[])/\∃b,w.heap.size<=b/\b<w'.heap.size/\Av w' w.heap.size D bd b (Jl d.CH)/\w'.cell? ⟨D,2,none⟩=some (.slice none 0 0)/\AA w w' D:=by
 have S:=@run_makeMap prog;obtain⟨M,N,dk,L⟩:=h.c;obtain⟨E,i⟩:=h.fd;rw[hp] at dk
 replace dk:CF w D bd bn (.slice M 0 N) d.left d.full d.down:=dk
 have I:=Zz (fun wx=>Ty part wx K.1 K.2);have q:=i.lt;have m:=Zaa dk.Au
 have p:bd≠D:=fun e=>by
  obtain⟨es,c,H,_⟩:=i.own;rw[e,dk.Au] at H;cases H
 obtain⟨V,A⟩:∃x,x=d.left:=⟨_,rfl⟩;obtain⟨f0,v⟩:∃x,x=d.full:=⟨_,rfl⟩;obtain⟨G,u⟩:∃x,x=d.down:=⟨_,rfl⟩;rw[<-A,<-v,<-u] at dk;have O:=Zz (show CF w D bd bn (.slice M 0 N) V f0 G/\AE w bd d.CH E/\bd≠D/\D<w.heap.size/\bd<w.heap.size from⟨dk,i,p,m,q⟩);obtain⟨C,B⟩:∃C,C=w.alloc (.map #[] 0):=⟨_,rfl⟩;have a:ZY w C:=by rw[B];exact ZV.alloc ZU _
 have c2:=dk.cells.1.1.1.2;have g:=dk.at_ (a.block D m);have e2:=g.cells.1.1.1.2;have H:=g.cells.1.1.2;have Z:=g.cells.1.2;have g3:=g.AD 3;have g4:=g.AD 4
 have F:=Zz (show ∀wx,CF wx D bd bn (.slice M 0 N) (-1) (-1) G->AA C wx D->Calls prog 33 #[.pointer (some ⟨D,0,none⟩)] wx fun x w'=>x=.returned (.tuple #[])/\∃b,w.heap.size<=b/\b<w'.heap.size/\Av w' w.heap.size D bd b (Jl d.CH)/\w'.cell? ⟨D,2,none⟩=some (.slice none 0 0)/\AA w w' D from fun wx T r=>by
  have J:∀k s,Zdg C k s->k≠D:=fun k s e y=>by
   unfold Zdg at e;rw[y,g.Au] at e;simp only[QCf,QIq] at e;exact absurd e.2.1 (by decide)
  have hf:=(i.below a).Eu (r.block bd (Zy q a.size) p) (fun k s e=>r.block k (Zaa e) (J k s e));refine (Xh wx D bd _ _ _ _ G d.CH E T.Au hf).mono ?_;rintro x w' ⟨rfl,b,q1,W,P,X,Y,t⟩;have j:=Zv a.size r.size;refine⟨rfl,b,Zv j q1,W,⟨Zv j t.size,⟨none,0,P,QEj _ _ _ _⟩,⟨E,X⟩,⟨E,Y⟩,by omega,QBp _,fun o h=>by cases h⟩,P.cells.1.1.1.2,?_⟩;exact⟨t.os.trans (r.os.trans a.os),t.tape.trans (r.tape.trans a.tape),t.output.trans (r.output.trans a.output),Zv j t.size,fun k hk z=>(t.block k (Zy hk j) z).trans ((r.block k (Zy hk a.size) z).trans (a.block k hk))⟩)
 have O:=Zz g;clear h hp K L i dk g p m q A v u a;subst B
 go_enter func66,ntmps66
 go_wp2_with (go_at_call 105;refine (I.o _).mono ?_;rintro _ w ⟨rfl,rfl⟩)
 go_loopw [24] (fun U wr=>U=.int .i64 0/\wr=w.alloc (.map #[] 0)) (fun _ _=>0)
 case atStart=>exact⟨rfl,rfl⟩
 case round =>
  obtain⟨rfl,rfl⟩:=hrel;go_wp2_with (go_at_call 33;refine (F.o _ ((O.o.WI (-1)).KH (-1)) (((AA.refl _ D).set 3 _).set 4 _)).mono ?_;rintro _ w5 ⟨rfl,q1⟩;have Q:=Zz q1;clear q1)
  go_end0
  exact⟨rfl,Q.o⟩
structure QZ (w:World)(hb R D bd bn N:Nat)(recs:List (List Int))(e:Ab):Prop where
 host:Bn w hb D (.pointer none)
 dk:Av w R D bd bn (Jl (DD recs))
 nil:w.cell? ⟨D,2,none⟩=some (.slice none 0 0)
 log:Da Za1 recs e
 sz:Hs (DD recs) N
 m2:2000000<=N
 err:Ay w
 nm:Za4 w
 Ix:AP w
 gl:4<hb/\4<D/\4<bd/\4<bn/\4<R
 ne:hb≠D/\hb≠bd/\hb≠bn
theorem SR (w:World)(hb P B R D bd bn N:Nat)(ob:Option Nat)(e:Ab)(kept part:Int)(h:AT qh w hb P B R D bd bn ob N e)(S: -9223372036854775808<=part/\part<=9223372036854775807) :
  Calls prog 25 #[.pointer (some ⟨hb,0,none⟩),.int .i64 kept,.int .i64 part] w fun x w'=>x=.returned (.tuple #[])/\∃j b,w.heap.size<=j/\QZ w' hb w.heap.size D bd j N b e/\HF w w' hb D bd bn:=by
 obtain⟨g,d,m,ws⟩:=h.ex;obtain⟨b,hl,t,_⟩:=ws.log;have J:=Zaa h.host.Au;have p:=h.ne;have H:=m.ne.l.gl;have G:=m.ne;have K:=m.pl;obtain⟨pa,pc,dk,_⟩:=m.dk.c;obtain⟨Dd,f3⟩:=m.dk.fd;obtain⟨Dn,f4⟩:=m.dk.fn
 have hm:∀E f O,AE w E f O->E≠hb:=fun E f O Y e2=>by
  obtain⟨es,c,Q,_⟩:=Y.own;rw[e2,h.host.Au] at Q;cases Q
 have X:∀k s,Zdg w k s->k≠hb:=fun k s e y=>by
  unfold Zdg at e;rw[y,h.host.Au] at e;simp only[QCf,QIq] at e;exact absurd e.2.1 (by decide)
 obtain⟨r,q⟩:∃r,r=w.setCell ⟨hb,1,none⟩ (.pointer none):=⟨_,rfl⟩;have v:AA w r hb:=by rw[q];exact (AA.refl w hb).set 1 _
 have u:Bn r hb D (.pointer none):=by rw[q];exact h.host.set _
 have A:Av r R D bd bn d:=v.fit h.host.Au (by decide) m.dk;have c0:=h.host.cells.1;have c1:=h.host.cells.2;have f1:=h.host.AD 1;have V:=u.cells.1
 have C:=Zz (show Calls prog 66 #[.pointer (some ⟨D,0,none⟩),.int .i64 kept,.int .i64 part] r fun x w'=>x=.returned (.tuple #[])/\∃j b,w.heap.size<=j/\QZ w' hb w.heap.size D bd j N b e/\HF w w' hb D bd bn from by
  refine (Sm r R D bd bn kept part d A ws.Ap S).mono ?_;rintro x w' ⟨rfl,j,q1,q2,T,q4,z⟩;have L:=v.size;have Ak:∀k,k<w.heap.size->k≠hb->k≠D->w'.heap[k]? =w.heap[k]? :=fun k hk k1 k2=>(z.block k (Zy hk L) k2).trans (v.block k hk k1);have M:r.heap.size=w.heap.size:=by rw[q];simp
  rw[M,t] at T;have I:=QDv _ _ (m.nm 0 (by omega));have F:=QDv _ _ h.err;have W:=p.gl;refine⟨rfl,j,b,by omega,⟨u.at_ (z.block hb (by omega) p.d),T,q4,hl,?_,ws.m2,(QEc (a:=⟨0,0,none⟩) (Ak _ F (by show 0≠hb;omega) (by show 0≠D;omega))).trans h.err,fun i hi=> ?_,?_,by omega,p.d,p.md,by omega⟩,⟨z.os.trans v.os,z.tape.trans v.tape,z.output.trans v.output,by have:=z.size;omega,fun k hk Z k1 _ _=>Ak k hk Z k1⟩⟩
  .rw[<-t];exact ws.s1
  .exact (QEc (a:=⟨1,i,none⟩) (Ak _ I (by show 1≠hb;omega) (by show 1≠D;omega))).trans (m.nm i hi)
  .exact m.Ix.at_ (Ak _ (by omega) (by omega) (by omega)))
 have HW:=Zz q;clear h S m ws hl t J p H G K dk f3 f4 hm X v u A;subst q
 go_enter func25,ntmps25
 go_wp2_with (go_at_call 66;refine C.o.mono ?_;rintro _ w5 ⟨rfl,q1⟩;have U:=Zz q1;clear q1)
 go_end0
 exact⟨rfl,U.o⟩
structure OpnS (qh:Nat)(w w':World)(fb hb P B D bd bn:Nat)(ob:Option Nat)(d:Ax)(e:Ab):Prop where
 pw:w.heap.size<=P
 pb:P<B
 bs:B<=w'.heap.size
 log:Bs w' P D ⟨0,0,0⟩
 kp:BE qh w' P B ob e
 dk:∃R,Av w' R D bd bn d
 nil:w'.cell? ⟨D,2,none⟩=some (.slice none 0 0)
 host:Bn w' hb D (.pointer none)
 UP:w'.heap[fb]? =some (.cells #[.int .i64 (-1),.int .i64 (-1),.int .i64 0,.int .i64 0] 35 (0,0))
 hf:HF w w' hb D bd bn
theorem Ie (f:BI):(Jl f).synced=⟨f,f,[],-2,-2,false⟩:=by
 simp[Ax.synced,Jl,Ax.Bz,Ax.wrote,wI]
theorem Xk {N:Nat}{a:List (List Int)}{e:Ab}(b:Hs (DD a) N)(c:2000000<=N)(hl:Da Za1 a e):BB ⟨0,0,0⟩ (Ax.calm (Jl (DD a)).synced) N e:=by
 rw[Ie];exact⟨rfl,rfl,rfl,rfl,rfl,rfl,rfl,b,b,c,a,hl,rfl,rfl⟩
theorem Lz {a:List (List Int)}(h:a≠[]):DD a 0=some (a.flatMap Zar):=by unfold DD;rw[if_pos rfl,if_neg h]
theorem Qb (w:World)(hb R0 D bd bn N:Nat)(g:List (List Int))(e:Ab)(h:QZ w hb R0 D bd bn N g e)(hrec:g≠[])(AZ:Az e)(hN:N<=1000000000000)(hq:qh<w.heap.size) :
  Calls prog 12 #[.pointer (some ⟨hb,0,none⟩),Zbd (-1) (-1) 0 0] w fun x w'=>x=.returned (.int .i64 0)/\∃P B R ob,AT qh w' hb P B R D bd bn ob N e/\w.heap.size<=P/\w.heap.size<=R/\HF w w' hb D bd bn:=by
 have cq:=Zz hq;clear hq;have hk:=h.dk;have he:=h.err;have ck:=h.nm;have ht:=h.Ix;have ar:=h.gl;have ax:=h.ne;obtain⟨fb,al⟩:∃fb,fb=w.heap.size:=⟨_,rfl⟩;obtain⟨C,X⟩:∃C,C=w.alloc (.cells #[.int .i64 (-1),.int .i64 (-1),.int .i64 0,.int .i64 0] 35):=⟨_,rfl⟩;have r:ZY w C:=by rw[X];exact ZV.alloc ZU _
 have F:C.heap[fb]? =some (.cells #[.int .i64 (-1),.int .i64 (-1),.int .i64 0,.int .i64 0] 35 (0,0)):=by rw[X,al];exact QFm w _
 have au:=Zaa h.host.Au
 have dk:CF w D bd bn (.slice none 0 0) (-1) (-1) false:=by
  obtain⟨pa,pc,q,_⟩:=hk.c;have e:=q.cells.1.1.1.2;rw[h.nil] at e;have e2:=Option.some.inj e;rw[<-e2] at q;exact q
 have ae:=Zaa dk.Au;obtain⟨Dd,T⟩:=hk.fd;obtain⟨Dn,U⟩:=hk.fn;have bj:=T.lt;have bw:=U.lt;have bh:0<w.heap.size:=QDv _ _ he;have V:=h.host.at_ (r.block hb au);have ag:=dk.at_ (r.block D ae)
 have ay:∀k s,Zdg C k s->k≠D:=fun k s e y=>by
  unfold Zdg at e;rw[y,ag.Au] at e;simp only[QCf,QIq] at e;exact absurd e.2.1 (by decide)
 have aw:bd≠D/\bn≠D:=⟨fun e=>(by
  obtain⟨es,c,M,_⟩:=T.own;rw[e,dk.Au] at M;cases M),fun e=>(by
  obtain⟨es,c,M,_⟩:=U.own;rw[e,dk.Au] at M;cases M)⟩
 have Z:=Zz (show Calls prog 34 #[.pointer (some ⟨hb,0,none⟩),Zbd (-1) (-1) 0 0] C fun x w'=>x=.returned (.tuple #[])/\Bn w' hb D (.pointer none)/\Av w' C.heap.size D bd bn (Jl (DD g))/\AA C w' D from by
  refine (FX C hb D bd bn _ _ _ _ false (-1) (-1) 0 0 V ag).mono ?_;rintro x w' ⟨rfl,q1,p⟩;refine⟨rfl,V.at_ (p.block hb (by have:=r.size;omega) ax.1),⟨p.size,⟨none,0,q1,QEj _ _ _ _⟩,⟨Dd,(T.below r).Eu (p.block bd (by have:=r.size;omega) aw.1) (fun k s e=>p.block k (Zaa e) (ay k s e))⟩,⟨Dn,(U.below r).Eu (p.block bn (by have:=r.size;omega) aw.2) (fun k s e=>p.block k (Zaa e) (ay k s e))⟩,hk.ne,QBp _,fun o u=>by cases u⟩,p⟩)
 have HR:=Zz (Zq X (Zq al (Zq r F)));have HL:=Zz (Zq au (Zq ae (Zq bj (Zq bw bh))));have HX:=Zz (Zq hrec (Zq h.log (Zq AZ (Zq h.sz (Zq hN (Zq h.m2 (Zq hk ar)))))));have A:=Zz (Zq he (Zq ck (Zq ht (Zq ar ax))));have c0:C.cell? ⟨hb,0,none⟩=some (.pointer (some ⟨D,0,none⟩)):=V.cells.1;have z0:C.cell? ⟨fb,0,none⟩=some (.int .i64 (-1)):=by unfold QEk;rw[F];rfl
 have z1:C.cell? ⟨fb,1,none⟩=some (.int .i64 (-1)):=by unfold QEk;rw[F];rfl
 have z2:C.cell? ⟨fb,2,none⟩=some (.int .i64 0):=by unfold QEk;rw[F];rfl
 have z3:C.cell? ⟨fb,3,none⟩=some (.int .i64 0):=by unfold QEk;rw[F];rfl
 unfold Zbd at Z ⊢;clear h hk dk he ck ht ar ax al X r F au ae T U bj bw bh V ag ay aw
 go_enter func12,ntmps12
 go_upto_region 1 with fail
 rw[<-HR.o.2.1,<-HR.o.1]
 go_upto_region 2 with (go_at_call 34;refine Z.o.mono ?_;rintro _ w2 ⟨rfl,q1,p,q3⟩;have H2:=Zz (Zq q1 (Zq p q3));clear q1 p q3)
 have az:=Zz (show Calls prog 35 #[By D] w2 fun x w'=>∃P B ob,x=.returned (.tuple #[.pointer (some ⟨P,0,none⟩),.nilIface])/\OpnS qh w w' fb hb P B D bd bn ob (Jl (DD g)).synced e from by
  obtain⟨g1,g2,g3,g4,g5⟩:=A.o.2.2.2.1;obtain⟨l1,l2,l3,l4,l5⟩:=HL.o;obtain⟨r1,r2,O,r4⟩:=HR.o;obtain⟨a1,a2,a3⟩:=H2.o;have hs:=O.size
  have cm:Za4 w2:=fun i hi=>by
   have hz:=QFa O (A.o.2.1 i hi);exact (QEc (a:=⟨1,i,none⟩) (a3.block 1 (QDv _ _ hz) (by omega))).trans hz
  obtain⟨e1,M,e4,e5,e6,e7,_⟩:=HX.o;refine (PM w2 C.heap.size D bd bn N (Jl (DD g)) g e a2 (by simp[Ax.Bz,Jl]) (by rw[Ie]) (by rw[Ie];exact Lz e1) (fun i h1 _=>by rw[Ie];show DD g i=none;unfold DD;rw[if_neg (by omega)]) M M.rok e4 (Zv (e5 0 _ (Lz e1)) e6) (A.o.2.2.1.at_ ((a3.block _ (by omega) (by omega)).trans (O.block _ (by omega)))) (by have:=a3.size;omega) e5 (fun o h=>by cases h) (by omega) cm ⟨g2,g3,g4,by omega⟩ (Zy (Zy cq.o hs) a3.size)).mono ?_;rintro x w' ⟨P,B,ob,rfl,b1,b2,b8,b3,b4,b5,b6,b7⟩;have e2:=a3.size;have H:w2.heap[fb]? =some (.cells #[.int .i64 (-1),.int .i64 (-1),.int .i64 0,.int .i64 0] 35 (0,0)):=(a3.block fb (Zaa r4) (by omega)).trans r4
  have stay:∀k,k<w.heap.size->k≠D->k≠bd->k≠bn->w'.heap[k]? =w.heap[k]? :=fun k hk k1 k2 k3=>by
   rw[b6.block k (by omega) k1 k2 k3 (Zu (by omega)),a3.block k (by omega) k1,O.block k hk]
  refine⟨P,B,ob,rfl,by omega,b2,b8,b3,b4,⟨_,b5⟩,b7,a1.at_ (b6.block hb (by omega) A.o.2.2.2.2.1 A.o.2.2.2.2.2.1 A.o.2.2.2.2.2.2 (Zu (by omega))),(b6.block fb (Zaa H) (by omega) (by omega) (by omega) (Zj fun dc dd e'=>by rw[H] at e';simp only[QCf,QIq] at e';exact absurd e'.2.1 (by decide))).trans H,⟨b6.os.trans (a3.os.trans O.os),b6.tape.trans (a3.tape.trans O.tape),b6.output.trans (a3.output.trans O.output),by have:=b6.size;omega,fun k hk _ k1 k2 k3=>stay k hk k1 k2 k3⟩⟩)
 obtain⟨a0,_⟩:=H2.o.1.cells;have a1:w2.cell? ⟨hb,0,none⟩=some (.pointer (some ⟨D,0,none⟩)):=a0;unfold By at az;clear a0 z0 z1 z2 z3 c0
 go_upto_region 3 with (go_at_call 35;refine az.o.mono ?_;rintro _ w3 ⟨P,B,ob,rfl,b⟩;have HP:=Zz b;clear b)
 have I:=HP.o.host;have b1:=I.cells.2;have f1:w3.frozen? ⟨hb,1,none⟩=false:=I.AD 1;clear a1
 go_upto_region 4 with fail
 obtain⟨w4,L⟩:∃w4,w4=w3.setCell ⟨hb,1,none⟩ (.pointer (some ⟨P,0,none⟩)):=⟨_,rfl⟩;rw[<-L];have u:AA w3 w4 hb:=by rw[L];exact (AA.refl w3 hb).set 1 _
 have J:Bn w4 hb D (.pointer (some ⟨P,0,none⟩)):=by rw[L];exact I.set _
 have cr:=Zz (Zq L (Zq u J));obtain⟨g1,g2,g3,g4,g5⟩:=A.o.2.2.2.1;obtain⟨n1,n2,n3⟩:=A.o.2.2.2.2;obtain⟨l1,l2,l3,l4,l5⟩:=HL.o;obtain⟨r1,r2,O,r4⟩:=HR.o;have da:=O.size;have b:=HP.o;have S:=b.pw;have W:=b.hf.size;have K:=u.size;have G:=b.pb;have Q:=b.bs;have E:=Zy G Q;have m:∀o v,w3.cell? ⟨P,o,none⟩=some v->w4.cell? ⟨P,o,none⟩=some v:=fun o v e=>(QEc (a:=⟨P,o,none⟩) (u.block P E (by omega))).trans e
 have bo:∀o,w4.frozen? ⟨P,o,none⟩=false:=fun o=>(QDx (a:=⟨P,o,none⟩) (u.block P E (by omega))).trans (b.log.fz o)
 have hold:∀k,k<w.heap.size->k≠hb->k≠D->k≠bd->k≠bn->w4.heap[k]? =w.heap[k]? :=fun k hk k0 k1 k2 k3=>(u.block k (by omega) k0).trans (b.hf.block k hk k0 k1 k2 k3)
 have bp:1<w.heap.size:=QDv _ _ (A.o.2.1 0 (by omega));have br:2<w.heap.size:=QDv _ _ (A.o.2.2.1 0 (by omega))
 have bf:AI qh w4 P B w3.heap.size D bd bn ob ⟨0,0,0⟩ (Jl (DD g)).synced e:=by
  obtain⟨rs,l,cz,db⟩:=b.kp;refine⟨⟨rs,l,cz.side ⟨K,fun o _=>QEc (a:=⟨P,o,none⟩) (u.block P E (by omega)),fun o=>QDx (a:=⟨P,o,none⟩) (u.block P E (by omega)),fun k cs t fr hk e' _=>u.block k (Zaa e') (by omega),fun k es c hk e'=>u.block k (Zaa e') (by omega)⟩,db⟩,⟨m _ _ b.log.c0,m _ _ b.log.c1,m _ _ b.log.c2,m _ _ b.log.c3,bo⟩,?_,fun i hi=> ?_,?_,⟨⟨by omega,by omega,by omega,E,by omega,by omega,by omega,by omega⟩,G,by omega,by omega,by omega⟩⟩
  .obtain⟨R0,cu⟩:=b.dk
   refine Av.raise (R:=R0) (u.fit I.Au (by decide) cu) (by rw[Ie]) ?_ K;exact (QEc (a:=⟨D,2,none⟩) (u.block D (by omega) (by omega))).trans b.nil
  .exact (QEc (a:=⟨1,i,none⟩) (hold 1 bp (by omega) (by omega) (by omega) (by omega))).trans (A.o.2.1 i hi)
  .exact A.o.2.2.1.at_ (hold 2 br (by omega) (by omega) (by omega) (by omega))
 have z:w4.heap[fb]? =some (.cells #[.int .i64 (-1),.int .i64 (-1),.int .i64 0,.int .i64 0] 35 (0,0)):=(u.block fb (Zaa b.UP) (by omega)).trans b.UP;have aj:Ay w4:=(QEc (a:=⟨0,0,none⟩) (hold 0 l5 (by omega) (by omega) (by omega) (by omega))).trans A.o.1
 have Y:=Zz (show Calls prog 36 #[.pointer (some ⟨hb,0,none⟩),Zbd (-1) (-1) 0 0] w4 fun x w'=>x=.returned (.tuple #[])/\AI qh w' P B w3.heap.size D bd bn ob ⟨0,0,0⟩ (Jl (DD g)).synced.calm e/\AA w4 w' D/\Bn w' hb D (.pointer (some ⟨P,0,none⟩))/\Ay w' from by
  refine (Zcn w4 hb P _ _ D bd bn ob _ _ _ _ _ _ 0 0 bf (by rw[Ie]) J).mono ?_;rintro x w' ⟨rfl,q1,p⟩;exact⟨rfl,q1,p,J.at_ (p.block hb (Zaa J.Au) n1),(QEc (a:=⟨0,0,none⟩) (p.block 0 (QDv _ _ aj) (by omega))).trans aj⟩)
 have y0:w4.cell? ⟨fb,0,none⟩=some (.int .i64 (-1)):=by unfold QEk;rw[z];rfl
 have y1:w4.cell? ⟨fb,1,none⟩=some (.int .i64 (-1)):=by unfold QEk;rw[z];rfl
 have y2:w4.cell? ⟨fb,2,none⟩=some (.int .i64 0):=by unfold QEk;rw[z];rfl
 have y3:w4.cell? ⟨fb,3,none⟩=some (.int .i64 0):=by unfold QEk;rw[z];rfl
 have HK:=Zz (Zq hold (Zq K (Zq W (Zq S (Zq G Q)))));unfold Zbd at Y;clear I b1 f1 L u J g1 g2 g3 g4 g5 n1 n2 n3 l1 l2 l3 l4 l5 r1 r2 O r4 da b S W K E G Q m bo hold bp br bf z aj
 go_wp2_with (first
  | (go_at_call 36;refine Y.o.mono ?_;rintro _ w5 ⟨rfl,q1,p,q3,q4⟩;have H5:=Zz (Zq q1 (Zq p (Zq q3 q4)));clear q1 p q3 q4)
  | (go_at_call 37;refine (Zby 0 _ H5.o.2.2.2).mono ?_;rintro _ w6 ⟨rfl,j⟩;have H6:=Zz j;clear j))
 go_ret
 obtain⟨hold,K,W,S,G,Q⟩:=HK.o;obtain⟨e1,M,e4,e5,e6,e7,_⟩:=HX.o;obtain⟨q1,p,q3,q4⟩:=H5.o;have j:=H6.o;have de:=p.size
 have cy:HF w w6 hb D bd bn:=by
  have u:=cr.o.2.1;have hf:=HP.o.hf;exact⟨j.os.trans (p.os.trans (u.os.trans hf.os)),j.tape.trans (p.tape.trans (u.tape.trans hf.tape)),j.output.trans (p.output.trans (u.output.trans hf.output)),by have:=j.size;omega,fun k hk k0 k1 k2 k3=>(j.block k (by omega)).trans ((p.block k (by omega) k1).trans (hold k hk k0 k1 k2 k3))⟩
 refine⟨rfl,P,B,w3.heap.size,ob,⟨⟨_,_,q1.below j,Xk e5 e7 M⟩,q3.at_ (j.block hb (Zaa q3.Au)),q4.Ak j,?_⟩,S,W,cy⟩;obtain⟨l1,l2,l3,l4,l5⟩:=HL.o;obtain⟨n1,n2,n3⟩:=A.o.2.2.2.2;exact⟨by omega,by omega,by omega,n1,n2,n3,A.o.2.2.2.1.1⟩
