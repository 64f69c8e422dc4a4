import Derived.Test.YtgdcjccbdmcebaaGreatDoorM28
import Derived.Maps.RangeWalk
import Derived.Maps.Ext
set_option linter.all false
set_option maxHeartbeats 16000000
set_option maxRecDepth 100000
open Go.Proofs.Tryz
open Array renaming getElem?_setIfInBounds_self_of_lt->QKd,getElem?_setIfInBounds_ne->QKe
open Go renaming cell_later->QFa,heap_alloc_new->QFm
open Go.Obj renaming cells.injEq->QIq
open Go.Value renaming int->QJw,nilIface->QJn
open Go.World renaming frozen?->QHj,cell?->QEk,cell?_of_block->QEc,block_lt_of_cell?->QDv
open Nat renaming zero_le->QBp,le_of_eq->QJx
open Option renaming some.inj->QJi,some.injEq->QCf
namespace Go.Proofs.YtgdcjccbdmcebaaGreatDoor
open Go.RowKit
attribute [local go_sem ↓] Go.wp_at_zero Go.wp_at_succ
variable {ob:Option Nat}{w wx w' wy w3 w1:World}{qh bd bn D hb R N P wb B n:Nat}{e e' e2:Ab}{cs:Array Value}{fr:Nat×Nat}{F:Ad}{t:TypeId}{y:DataW Unit×List MemPlace}{v:Value}{m:Int}{d:Ax}
theorem Ro:Tryz.zeroCells165=([QJn,QJw .i64 0,QJw .i64 0,QJn]++GH).toArray:=by kernel_rfl
theorem Yk:Tryz.zeroCells165.size=731:=by kernel_rfl
theorem Dw {b:Nat}(h:w.heap[b]? =some (.cells cs t fr)){j:Nat}(a:cs[j]? =some v):w.cell? ⟨b,j,none⟩=some v:=by simp[QEk,h,a]
theorem GI {b:Nat}(h:w.heap[b]? =some (.cells Tryz.zeroCells165 t fr)){j:Nat}(a:([QJn,QJw .i64 0,QJw .i64 0,QJn]++GH)[j]? =some v):w.cell? ⟨b,j,none⟩=some v:=Dw h (by rw[Ro];simpa using a)
structure OpR (w wc:World)(P R D bd bn lb:Nat)(d:Ax):Prop where
 lg:wc.heap[lb]? =some (.cells #[By D,.int .i64 0,.int .i64 0,.nilIface] 148 (0,0))
 p:wc.heap[P]? =some (.cells Tryz.zeroCells165 165 (0,0))
 dk:Av wc R D bd bn d
 df:DF w wc R D bd bn
 nil:wc.cell? ⟨D,2,none⟩=some (.slice none 0 0)
theorem OpR.new (p:w3.heap[P]? =some (.cells Tryz.zeroCells165 165 (0,0)))(dk:Av w3 R D bd bn d)(df:DF w w3 R D bd bn)(nil:w3.cell? ⟨D,2,none⟩=some (.slice none 0 0)):OpR w (w3.alloc (.cells #[By D,.int .i64 0,.int .i64 0,.nilIface] 148)) P R D bd bn w3.heap.size d:=by
 have hb:ZY w3 (w3.alloc (.cells #[By D,.int .i64 0,.int .i64 0,.nilIface] 148)):=ZV.alloc ZU _;exact⟨QFm _ _,(hb.block P (Zaa p)).trans p,dk.below hb,df.trans (DF.Ae R D bd bn hb),QFa hb nil⟩
theorem AA.fit {rb:Nat}(a:AA w w' rb)(g:w.heap[rb]? =some (.cells cs t fr))(h:t≠9/\t≠210/\t≠92)(dk:Av w R D bd bn d):Av w' R D bd bn d:=by
 obtain⟨s,u,q,_⟩:=dk.c;obtain⟨p,f3⟩:=dk.fd;obtain⟨r,f4⟩:=dk.fn
 have hm:∀b f i,AE w b f i->b≠rb:=fun b f i o e2=>by
  obtain⟨es,c,j,_⟩:=o.own;rw[e2,g] at j;cases j
 exact dk.Ak a.size (a.block D (Zaa q.Au) (Zah q.Au g (Ne.symm h.2.2))) (a.block bd f3.lt (hm _ _ _ f3)) (a.block bn f4.lt (hm _ _ _ f4)) (fun k cs x fr e l=>a.block k (Zaa e) (Zah e g (by rcases l with rfl | rfl;exact Ne.symm h.1;exact Ne.symm h.2.1)))
theorem DF.GJ {rb:Nat}(h:DF w w1 R D bd bn)(a:AA w1 w' rb)(b:w.heap.size<=rb):DF w w' R D bd bn :=
 ⟨a.os.trans h.os,a.tape.trans h.tape,a.output.trans h.output,Zv h.size a.size,fun k hk a1 a2 a3 a4=>(a.block k (Zy hk h.size) (by omega)).trans (h.block k hk a1 a2 a3 a4)⟩
theorem OpR.old {b:Nat}(p:w3.heap[P]? =some (.cells Tryz.zeroCells165 165 (0,0)))(dk:Av w3 R D bd bn d)(df:DF w w3 R D bd bn)(hl:w3.heap[b]? =some (.cells #[.nilIface,.int .i64 0,.int .i64 0,.nilIface] 148 (0,0)))(g:w.heap.size<=b)(nil:w3.cell? ⟨D,2,none⟩=some (.slice none 0 0))(c:D≠b):OpR w ((((w3.setCell ⟨b,0,none⟩ (By D)).setCell ⟨b,1,none⟩ (.int .i64 0)).setCell ⟨b,2,none⟩ (.int .i64 0)).setCell ⟨b,3,none⟩ .nilIface) P R D bd bn b d:=by
 have f:=AA.Jo w3 b (By D) (.int .i64 0) (.int .i64 0) .nilIface;exact⟨by rw[Zab (Zab (Zab (Zab hl _) _) _) _];rfl,(f.block P (Zaa p) (Zah p hl (by decide))).trans p,f.fit hl (by decide) dk,df.GJ f g,(QEc (a:=⟨D,2,none⟩) (f.block D (QDv _ _ nil) c)).trans nil⟩
theorem PL (w:World)(R D bd bn M:Nat)(d:Ax)(h:Av w R D bd bn d)(hw:d.Bz=0)(S:d.synced.down=false)(hn:∀i,i<3->d.synced.now i=none)(hs:Hs d.CH M)(V:∀o∈d.Ap,o.data.length<=M)(hM:M<=1099511627776)(U:Za4 w)(T:4<D/\4<bd/\4<bn/\4<R) :
  Calls prog 35 #[By D] w fun x w'=>∃P,x=.returned (.tuple #[.pointer (some ⟨P,0,none⟩),.nilIface])/\w.heap.size<=P/\P<w'.heap.size/\Bs w' P D ⟨0,0,0⟩/\(∀j v,GH[j]? =some v->w'.cell? ⟨P,4+j,none⟩=some v)/\Av w' R D bd bn d.synced/\DF w w' R D bd bn/\w'.cell? ⟨D,2,none⟩=some (.slice none 0 0):=by
 obtain⟨P,hP⟩:∃P,P=w.heap.size:=⟨_,rfl⟩;obtain⟨w1,u⟩:∃w1,w1=w.alloc (.cells Tryz.zeroCells165 165):=⟨_,rfl⟩;have r:ZY w w1:=by rw[u];exact ZV.alloc ZU _
 have G:w1.heap[P]? =some (.cells Tryz.zeroCells165 165 (0,0)):=by rw[u,hP];exact QFm w _
 obtain⟨pa,pc,dk,_⟩:=h.c;obtain⟨Dd,f3⟩:=h.fd;obtain⟨Dn,f4⟩:=h.fn;have O:=Zaa dk.Au;have ag:=f3.lt;have al:=f4.lt
 have q:=Zz (show ∀wx v1 v2,ZY w1 wx->Calls prog 79 #[By D,v1,v2] wx fun x w'=>x=.returned (.tuple #[Jn D,.nilIface])/\Av w' R D bd bn d.synced/\DF w w' R D bd bn/\w'.cell? ⟨D,2,none⟩=some (.slice none 0 0)/\w'.heap[P]? =some (.cells Tryz.zeroCells165 165 (0,0))/\∀k cs,w.heap.size<=k->wx.heap[k]? =some (.cells cs 148 (0,0))->w'.heap[k]? =some (.cells cs 148 (0,0)) from fun wx v1 v2 Q=>by
  have C:ZY w wx:=r.trans (Q.mono r.size);refine (Qn wx R D bd bn M d v1 v2 (h.below C) hw S hn hs V hM (fun i hi=>QFa C (U i hi)) T).mono ?_;rintro x w' ⟨rfl,q1,z,J⟩;have H:=(Q.block P (Zaa G)).trans G;refine⟨rfl,q1,(DF.Ae R D bd bn C).trans z,J,(z.block P (Zaa H) (by omega) (by omega) (by omega) (Zj fun Z ae e'=>by rw[H] at e';simp only[QCf,QIq] at e';exact absurd e'.2.1 (by decide))).trans H,fun k cs hk E=>(z.block k (Zaa E) (by omega) (by omega) (by omega) (Zj fun Z ae e'=>by rw[E] at e';simp only[QCf,QIq] at e';exact absurd e'.2.1 (by decide))).trans E⟩)
 have A:=Zz (Zq u (Zq hP r));have K:=Zz O;have ar:∀(fn:Fn) (first cap:Array Value) (w:World),(Instr.makeFunc fn first cap).run prog w=.ok (.func fn first cap) w:=fun _ _ _ _=>rfl;unfold Jn at q;unfold By at q;unfold By;clear h hw S hn hs V hM U T hP u r G dk f3 f4 O ag al
 go_enter func35,ntmps35
 go_upto_region 3 with fail
 go_upto_region 4 with fail
 rw[<-A.o.1,<-A.o.2.1]
 go_cut [5,6] from 12 to 24 (fun lv ev wc=>∃lb,lv=.pointer (some ⟨lb,0,none⟩)/\ev=.nilIface/\OpR w wc P R D bd bn lb d.synced)
 case first =>
  go_region_with (go_at_call 79;first
   | (refine (q.o w1.drew _ _ (ZV.drew)).mono ?_;rintro _ w3 ⟨rfl,q1,z,J,W,Y⟩;have l:=Zz (Zq q1 (Zq z (Zq W J)));clear q1 z J W Y)
   | (refine (q.o _ _ _ ((ZV.alloc ZU _).drew)).mono ?_;rintro _ w3 ⟨rfl,q1,z,J,W,Y⟩;have I:=Y w1.heap.size _ A.o.2.2.size (QFm w1 _);have X:∀o,w3.frozen? ⟨w1.heap.size,o,none⟩=false:=(fun o=>by simp[QHj,I]);have e0:=Zae I 0;have e1:=Zae I 1;have e2:=Zae I 2;have e3:=Zae I 3;have g0:=X 0;have g1:=X 1;have g2:=X 2;have g3:=X 3;have l:=Zz (Zq q1 (Zq z (Zq W (Zq I J))));clear q1 z J W Y I X))
  all_goals go_wp2_with fail
  all_goals go_meet
  all_goals first
   | exact⟨_,rfl,rfl,OpR.new l.o.2.2.1 l.o.1 l.o.2.1 l.o.2.2.2⟩
   | exact⟨_,rfl,rfl,OpR.old l.o.2.2.1 l.o.1 l.o.2.1 l.o.2.2.2.1 A.o.2.2.size l.o.2.2.2.2 (by have:=K.o;have:=A.o.2.2.size;omega)⟩
 case rest =>
  obtain⟨lb,rfl,rfl,b⟩:=hcut;have g:=b.lg;unfold By at g;have e0:=Zae g 0;have e1:=Zae g 1;have e2:=Zae g 2;have e3:=Zae g 3;have z0:=GI b.p (j:=0) rfl;have z1:=GI b.p (j:=1) rfl;have z2:=GI b.p (j:=2) rfl;have z3:=GI b.p (j:=3) rfl;have g0:wc.frozen? ⟨P,0,none⟩=false:=by simp[QHj,b.p]
  have g1:wc.frozen? ⟨P,1,none⟩=false:=by simp[QHj,b.p]
  have g2:wc.frozen? ⟨P,2,none⟩=false:=by simp[QHj,b.p]
  have g3:wc.frozen? ⟨P,3,none⟩=false:=by simp[QHj,b.p]
  have L:=Zz b;clear b g;go_wp2_with fail
  go_ret2
  have hp:=L.o.p;have ho:=AA.Jo wc P (By D) (.int .i64 0) (.int .i64 0) .nilIface
  have f:((((wc.setCell ⟨P,0,none⟩ (By D)).setCell ⟨P,1,none⟩ (.int .i64 0)).setCell ⟨P,2,none⟩ (.int .i64 0)).setCell ⟨P,3,none⟩ .nilIface).heap[P]? =some (.cells ((((Tryz.zeroCells165.setIfInBounds 0 (By D)).setIfInBounds 1 (.int .i64 0)).setIfInBounds 2 (.int .i64 0)).setIfInBounds 3 .nilIface) 165 (0,0)):=by
   rw[Zab (Zab (Zab (Zab hp _) _) _) _]
  have aj:∀o,((((wc.setCell ⟨P,0,none⟩ (By D)).setCell ⟨P,1,none⟩ (.int .i64 0)).setCell ⟨P,2,none⟩ (.int .i64 0)).setCell ⟨P,3,none⟩ .nilIface).frozen? ⟨P,o,none⟩=false:=fun o=>by simp only[QHj,f];simp
  have s:=Yk;refine⟨P,rfl,QJx A.o.2.1.symm,Zaa f,⟨?_,?_,?_,?_,aj⟩,fun j v hj=> ?_,ho.fit hp (by decide) L.o.dk,L.o.df.GJ ho (QJx A.o.2.1.symm),(QEc (a:=⟨D,2,none⟩) (ho.block D (QDv _ _ L.o.nil) (by have:=K.o;have:=A.o.2.1;omega))).trans L.o.nil⟩
  .exact Dw f (by rw[QKe (by decide),QKe (by decide),QKe (by decide),QKd (by rw[s];decide)])
  .exact Dw f (by rw[QKe (by decide),QKe (by decide),QKd (by simp[s])];rfl)
  .exact Dw f (by rw[QKe (by decide),QKd (by simp[s])];rfl)
  .exact Dw f (by rw[QKd (by simp[s])];rfl)
  .refine Dw f ?_
   rw[QKe (by omega),QKe (by omega),QKe (by omega),QKe (by omega),Ro];rw[List.getElem?_toArray,List.getElem?_append_right (by simp)];simpa using hj
open Go.RowKit
open Go.Maps (Agree agree_start agree_step agree_end)
attribute [local go_sem ↓] Go.wp_at_zero Go.wp_at_succ
theorem Lf {key:Value}{a:Lit}(h:keyOf prog 9 key=some a):∃x,key=.string x:=by
 have hk:=underlying9
 cases key<;>simp[keyOf,hk,mapKey] at h
 exact⟨_,rfl⟩
theorem WT (h:Er v=some y):∃c:Option Addr,v=.pointer c:=by
 unfold Er at h
 split at h
 .exact⟨_,rfl⟩
 .exact⟨_,rfl⟩
 .cases h
theorem AE.copied {j a:Nat}{f:BI}{D:DataW Unit}(h:AE w j f D)(c:w'.ownsMap prog 9 Er a 3 D)(o:∀k s,Zdg w k s->w'.heap[k]? =w.heap[k]?):AE w' a f D :=
 ⟨c,h.size,h.has,fun i s hi e=>by obtain⟨b,l,g⟩:=h.at_ i s hi e;exact⟨b,l,(o b _ g).trans g⟩⟩
theorem AA.EX {row:Option Nat}(h:w.grownBy w' row)(a:∀j,row=some j->w.heap.size<=j):AA w w' D :=
 ⟨h.os,h.tape,h.output,h.size,fun k hk _=>h.block k hk (fun e=>by have:=a k e.symm;omega)⟩
theorem AA.PX {row:Option Nat}(a:AA w w1 D)(h:w1.grownBy w' row)(c:∀j,row=some j->w.heap.size<=j):AA w w' D :=
 ⟨h.os.trans a.os,h.tape.trans a.tape,h.output.trans a.output,Zv a.size h.size,fun k hk b=>(h.block k (Zy hk a.size) (fun e=>by have:=c k e.symm;omega)).trans (a.block k hk b)⟩
theorem Xh (w:World)(D bd:Nat)(nv pv:Value)(V f0:Int)(X:Bool)(f:BI)(r:DataW Unit)(hd:w.heap[D]? =some (.cells #[.map (some bd),nv,pv,.int .i64 V,.int .i64 f0,.bool X] 92 (0,0)))(hf:AE w bd f r) :
  Calls prog 33 #[.pointer (some ⟨D,0,none⟩)] w fun x w'=>x=.returned (.tuple #[])/\∃z,w.heap.size<=z/\z<w'.heap.size/\CF w' D bd z (.slice none 0 0) V f0 false/\AE w' bd f r/\AE w' z f r/\AA w w' D:=by
 have cm:=@run_makeMap prog;have Y:=Zaa hd;have ax:=hf.own.lt
 have L:bd≠D:=fun e=>by
  obtain⟨es,c,e3,_⟩:=hf.own;rw[e,hd] at e3;cases e3
 obtain⟨nb,E⟩:∃nb,nb=w.heap.size:=⟨_,rfl⟩;obtain⟨w1,i⟩:∃w1,w1=(w.alloc (.map #[] 0)).setCell ⟨D,1,none⟩ (.map (some nb)):=⟨_,rfl⟩;have Z:ZY w (w.alloc (.map #[] 0)):=ZV.alloc ZU _;have A:=(Z.block D Y).trans hd;have M:CF w1 D bd nb pv V f0 X:=by rw[i];exact⟨by rw[Zab A];rfl⟩
 have q:w1.ownsMap prog 9 Er bd 3 r:=by rw[i];exact (hf.own.alloc _).setCell L _
 have p:w1.ownsMap prog 9 Er nb 0 (.map []:DataW Unit):=by rw[i,E];exact (World.ownsMap_made _ _ _ _).setCell (by show w.heap.size≠D;omega) _
 have aj:AA w w1 D:=by
  have h0:=AA.EX (D:=D) (World.grownBy_alloc w (.map #[] 0) none) (fun j h=>by cases h);rw[i];exact h0.set 1 _
 have H:w1.heap.size=nb+1:=by rw[i,E];simp
 have d1:(w.alloc (.map #[] 0)).cell? ⟨D,1,none⟩=some nv:=by unfold QEk;rw[A];rfl
 have g1:(w.alloc (.map #[] 0)).frozen? ⟨D,1,none⟩=false:=by simp[QHj,A]
 have ck:D<nb:=by omega
 have bj:bd<nb:=by omega
 have bh:=Rj f;have cq:=hf.size
 have ag:∀k s,Zdg w k s->k≠D:=fun k s e y=>by
  unfold Zdg at e;rw[y,hd] at e;simp only[QCf,QIq] at e;exact absurd e.2.1 (by decide)
 have u:=Zz (Zq i (Zq E (Zq hf (Zq H (Zq p aj)))));have HN:=Zz ag;clear ag hd hf ax Z A i E aj Y
 go_enter func33,ntmps33
 go_upto_region 1 with fail
 rw[<-u.o.2.1,<-u.o.1];have e0:=M.cells.1.1.1.1.1;clear d1 g1;go_wp2_with (at_range;refine wpList_range_own _ rfl _ 89 rfl 9 144 CI underlying89 Er bd 3 r rfl q ?_;intro w0 J C bf)
 go_frame
 have HA:=Zz (show CF w0 D bd nb pv V f0 X/\AA w w0 D/\w0.ownsMap prog 9 Er nb 0 (.map []:DataW Unit) from⟨M.at_ (C.block D (by omega) (by simp)),u.o.2.2.2.2.2.PX C (fun j h=>by cases h),u.o.2.2.2.2.1.kept C (by simp)⟩);rw[H] at J bf ⊢;clear e0 M q p C H
 go_loopw [2,3] (fun _ _ wr=>∃(left:Lit->Bool) (cnt:Nat) (b:DataW Unit),wr.ranges prog 9 Er bd (nb+1) 3 r left cnt/\cnt<=Maps.size r /\
   wr.ownsMap prog 9 Er nb (Maps.size r - cnt) b/\Agree b r left/\CF wr D bd nb pv V f0 X/\AA w wr D)
  (fun _ _ wr=>wr.rangeLeft bd (nb+1))
 case atStart =>
  exact⟨_,_,.map [],J,Zx _,HA.o.2.2.mono (QBp _),agree_start r,HA.o.1,HA.o.2.1⟩
 case round =>
  obtain⟨left,cnt,b,U,bp,g,hA,a,G⟩:=hrel;have HO:=Zz (Zq a G);have e1:=a.cells.1.1.1.1.2;have e2:=a.cells.1.1.1.2;have e5:=a.cells.2;have g2:=a.AD 2;have g5:=a.AD 5;clear a G;go_wp2_with (at_next;refine wpList_next_ranges _ rfl _ rfl 9 CI Er Value.string Value.pointer (fun key kl h=>Lf h) (fun v y h=>WT h) bd (nb+1) 3 _ _ _ rfl U ?_ ?_)
  .intro ay az
   go_wp2_with fail
   go_end0
   subst ay;obtain⟨a,G⟩:=HO.o;have e:=agree_end hA az (g.canon CI) (u.o.2.2.1.own.canon CI);subst e;have al:AA w ((wr.setCell ⟨D,2,none⟩ (.slice none 0 0)).setCell ⟨D,5,none⟩ (.bool false)) D:=(G.set 2 _).set 5 _;have au:∀k s,Zdg w k s->((wr.setCell ⟨D,2,none⟩ (.slice none 0 0)).setCell ⟨D,5,none⟩ (.bool false)).heap[k]? =w.heap[k]? :=fun k s e2=>al.block k (Zaa e2) (HN.o k s e2);refine⟨rfl,nb,QJx u.o.2.1.symm,?_,(a.Bv (.slice none 0 0)).WG false,?_,?_,al⟩
   .have:=g.lt
    simpa using this
   .exact u.o.2.2.1.copied ((U.owns.setCell L _).setCell L _) au
   .refine u.o.2.2.1.copied ((((by simpa using g:wr.ownsMap prog 9 Er nb (Maps.size b) b).mono (by omega)).setCell (by show nb≠D;omega) _).setCell (by show nb≠D;omega) _) au
  .intro x c kl yd yp w2 W I bw hv aw ar ae O H br
   have S:=g.kept O (by simp);have l:CF w2 D bd nb pv V f0 X:=HO.o.1.at_ (O.block D (Zaa HO.o.1.Au) (by simp;omega));have bo:=l.cells.1.1.1.1.2;clear e1 e2 e5 g2 g5;go_wp2_with (at_mapUpdate;refine wpList_mapUpdate_own _ rfl _ _ _ 89 rfl 9 144 CI underlying89 Er nb _ _ rfl S (by unfold maxLen;omega) _ _ kl rfl rfl I yd yp hv ?_;intro w3 T Q;go_frame)
   have K:=ar.kept Q (fun e=>by have:=QJi e;omega) (fun e=>by have:=QJi e;omega)
   go_roundw
   case rel =>
    refine⟨_,W,_,K,by omega,T.mono (by omega),agree_step hA g.isMap (CI.key I) aw,l.at_ (Q.block D (Zaa l.Au) (by simp;omega)),(HO.o.2.PX O (fun j h=>by have:=u.o.2.1;cases h;omega)).PX Q (fun j h=>by have:=u.o.2.1;cases h;omega)⟩
   case measure=>rw[K.left_eq,U.left_eq];exact ae
open Go.RowKit
attribute [local go_sem ↓] Go.wp_at_zero Go.wp_at_succ
structure Ra (w:World)(hb D bd bn:Nat):Prop where
 host:Bn w hb D (.pointer none)
 dk:CF w D bd bn (.slice none 0 0) (-1) (-1) false
 fd:∃Dd,AE w bd Df Dd
 fn:∃Dn,AE w bn Df Dn
 ne:bd≠bn
theorem OE (w:World):Calls prog 11 #[] w fun x w'=>∃hb D bd bn,x=.returned (.pointer (some ⟨hb,0,none⟩))/\Ra w' hb D bd bn/\(w.heap.size<=hb/\w.heap.size<=D/\w.heap.size<=bd/\w.heap.size<=bn)/\hb≠D/\hb≠bd/\hb≠bn/\ZY w w':=by
 have E:=@run_makeMap prog;obtain⟨m,hm⟩:∃m,m=w.heap.size:=⟨_,rfl⟩;obtain⟨w3,a⟩:∃w3,w3=((w.alloc (.map #[] 0)).alloc (.cells #[.map (some m),.map none,.slice none 0 0,.int .i64 (-1),.int .i64 (-1),.bool false] 92)).alloc (.cells #[.pointer (some ⟨m+1,0,none⟩),.pointer none] 95):=⟨_,rfl⟩;have f:ZY w w3:=by rw[a];exact ((ZV.alloc ZU _).alloc (by simp) _).alloc (by simp;omega) _
 have u:w3.heap[m+1]? =some (.cells #[.map (some m),.map none,.slice none 0 0,.int .i64 (-1),.int .i64 (-1),.bool false] 92 (0,0)):=by
  rw[a,Zam _ _ _ (by simp;omega)];exact Zbm _ _ _ _ (by simp;omega)
 have g:w3.heap[m+1+1]? =some (.cells #[.pointer (some ⟨m+1,0,none⟩),.pointer none] 95 (0,0)):=by
  rw[a];exact Zbm _ _ _ _ (by simp;omega)
 have hf:AE w3 m Df (.map []):=by
  rw[a,hm];have A:=SC w;have hb:Below (w.alloc (.map #[] 0)).heap.size (w.alloc (.map #[] 0)) w3:=by rw[a,hm];exact (ZV.alloc ZU _).alloc (by simp) _
  have:=A.below hb;rw[a,hm] at this;exact this
 have q:=Zz (Xh w3 (m+1) m _ _ _ _ _ Df _ u hf);have p:=Zz (Zq a (Zq hm (Zq f g)));have c0:w3.cell? ⟨m+1+1,0,none⟩=some (.pointer (some ⟨m+1,0,none⟩)):=by unfold QEk;rw[g];rfl
 have r:=Zaa g;clear hm a f u g hf
 go_enter func11,ntmps11
 go_upto_region 2 with fail
 rw[<-p.o.2.1,<-p.o.1];go_wp2_with (go_at_call 33;refine q.o.mono ?_;rintro _ w4 ⟨rfl,bn,q1,s,i,j,l,b⟩;have z:=Zz (Zq q1 (Zq s (Zq i (Zq j (Zq l b)))));clear q1 s i j l b)
 go_ret
 obtain⟨q1,s,i,j,l,b⟩:=z.o;obtain⟨G,H,c,C⟩:=p.o;refine⟨m+1+1,m+1,m,bn,rfl,⟨⟨(b.block _ r (by omega)).trans C⟩,i,⟨_,j⟩,⟨_,l⟩,by omega⟩,⟨by omega,by omega,by omega,by omega⟩,by omega,by omega,by omega,?_⟩;exact⟨b.os.trans c.os,b.tape.trans c.tape,b.output.trans c.output,Zv c.size b.size,fun k hk=>(b.block k (Zy hk c.size) (by omega)).trans (c.block k hk)⟩
structure HF (w w':World)(hb D bd bn:Nat):Prop where
 os:w'.os=w.os
 tape:w'.tape=w.tape
 output:w'.output=w.output
 size:w.heap.size<=w'.heap.size
 block:∀k,k<w.heap.size->k≠hb->k≠D->k≠bd->k≠bn->w'.heap[k]? =w.heap[k]?
structure OpnR (w w':World)(fb hb P D bd bn:Nat):Prop where
 pw:w.heap.size<=P
 pl:P<w'.heap.size
 log:Bs w' P D ⟨0,0,0⟩
 cells:∀j v,GH[j]? =some v->w'.cell? ⟨P,4+j,none⟩=some v
 dk:∃R,Av w' R D bd bn (Ax.synced ⟨Df,Df,[],-1,-1,false⟩)
 nil:w'.cell? ⟨D,2,none⟩=some (.slice none 0 0)
 host:Bn w' hb D (.pointer none)
 UP:w'.heap[fb]? =some (.cells #[.int .i64 (-1),.int .i64 (-1),.int .i64 0,.int .i64 0] 35 (0,0))
 hf:HF w w' hb D bd bn
def IH:Ax:=⟨Df,Df,[],-1,-1,false⟩
theorem GD:IH.synced=⟨Df,Df,[],-2,-2,false⟩:=by
 simp[Ax.synced,IH,Ax.Bz,Ax.wrote,wI]
theorem Xl (a:2000000<=N):BB ⟨0,0,0⟩ (Ax.calm IH.synced) N Za1:=by
 rw[GD];exact⟨rfl,rfl,rfl,rfl,rfl,rfl,rfl,fun i s h=>(by cases h),fun i s h=>(by cases h),a,[],.nil _,NY.symm,NY.symm⟩
theorem Qa (w:World)(hb D bd bn N:Nat)(h:Ra w hb D bd bn)(he:Ay w)(bp:Za4 w)(ht:AP w)(bf:4<hb/\4<D/\4<bd/\4<bn)(ar:hb≠D/\hb≠bd/\hb≠bn)(hN:2000000<=N)(hq:qh<w.heap.size) :
  Calls prog 12 #[.pointer (some ⟨hb,0,none⟩),Zbd (-1) (-1) 0 0] w fun x w'=>x=.returned (.int .i64 0)/\∃P B,AT qh w' hb P B B D bd bn none N Za1/\w.heap.size<=P/\w.heap.size<=B/\HF w w' hb D bd bn:=by
 have HQ:=Zz hq;clear hq;obtain⟨fb,ae⟩:∃fb,fb=w.heap.size:=⟨_,rfl⟩;obtain⟨w1,Q⟩:∃w1,w1=w.alloc (.cells #[.int .i64 (-1),.int .i64 (-1),.int .i64 0,.int .i64 0] 35):=⟨_,rfl⟩;have p:ZY w w1:=by rw[Q];exact ZV.alloc ZU _
 have A:w1.heap[fb]? =some (.cells #[.int .i64 (-1),.int .i64 (-1),.int .i64 0,.int .i64 0] 35 (0,0)):=by rw[Q,ae];exact QFm w _
 have aj:=Zaa h.host.Au;have X:=Zaa h.dk.Au;obtain⟨Dd,K⟩:=h.fd;obtain⟨Dn,L⟩:=h.fn;have az:=K.lt;have bo:=L.lt;have ay:0<w.heap.size:=QDv _ _ he;have M:=h.host.at_ (p.block hb aj);have Y:=h.dk.at_ (p.block D X)
 have au:∀k s,Zdg w1 k s->k≠D:=fun k s e y=>by
  unfold Zdg at e;rw[y,Y.Au] at e;simp only[QCf,QIq] at e;exact absurd e.2.1 (by decide)
 have al:bd≠D/\bn≠D:=⟨fun e=>(by
  obtain⟨es,c,e3,_⟩:=K.own;rw[e,h.dk.Au] at e3;cases e3),fun e=>(by
  obtain⟨es,c,e3,_⟩:=L.own;rw[e,h.dk.Au] at e3;cases e3)⟩
 have U:=Zz (show Calls prog 34 #[.pointer (some ⟨hb,0,none⟩),Zbd (-1) (-1) 0 0] w1 fun x w'=>x=.returned (.tuple #[])/\Bn w' hb D (.pointer none)/\Av w' w1.heap.size D bd bn IH/\AA w1 w' D from by
  refine (FX w1 hb D bd bn _ _ _ _ false (-1) (-1) 0 0 M Y).mono ?_;rintro x w' ⟨rfl,q1,l⟩;refine⟨rfl,M.at_ (l.block hb (by have:=p.size;omega) ar.1),⟨l.size,⟨none,0,q1,World.ownsRow_nil _ _ _ _⟩,⟨Dd,(K.below p).Eu (l.block bd (by have:=p.size;omega) al.1) (fun k s e=>l.block k (Zaa e) (au k s e))⟩,⟨Dn,(L.below p).Eu (l.block bn (by have:=p.size;omega) al.2) (fun k s e=>l.block k (Zaa e) (au k s e))⟩,h.ne,QBp _,fun o u=>by cases u⟩,l⟩)
 have HR:=Zz (Zq Q (Zq ae (Zq p A)));have HL:=Zz (Zq aj (Zq X (Zq az (Zq bo ay))));have z:=Zz (Zq he (Zq bp (Zq ht (Zq bf ar))));have c0:w1.cell? ⟨hb,0,none⟩=some (.pointer (some ⟨D,0,none⟩)):=M.cells.1;have z0:w1.cell? ⟨fb,0,none⟩=some (.int .i64 (-1)):=by unfold QEk;rw[A];rfl
 have z1:w1.cell? ⟨fb,1,none⟩=some (.int .i64 (-1)):=by unfold QEk;rw[A];rfl
 have z2:w1.cell? ⟨fb,2,none⟩=some (.int .i64 0):=by unfold QEk;rw[A];rfl
 have z3:w1.cell? ⟨fb,3,none⟩=some (.int .i64 0):=by unfold QEk;rw[A];rfl
 unfold Zbd at U ⊢;clear h he bp ht bf ar ae Q p A aj X K L az bo ay M Y au al
 go_enter func12,ntmps12
 go_upto_region 1 with fail
 rw[<-HR.o.2.1,<-HR.o.1]
 go_upto_region 2 with (go_at_call 34;refine U.o.mono ?_;rintro _ w2 ⟨rfl,q1,l,V⟩;have H2:=Zz (Zq q1 (Zq l V));clear q1 l V)
 have aw:=Zz (show Calls prog 35 #[By D] w2 fun x w'=>∃P,x=.returned (.tuple #[.pointer (some ⟨P,0,none⟩),.nilIface])/\OpnR w w' fb hb P D bd bn from by
  obtain⟨g1,g2,g3,g4⟩:=z.o.2.2.2.1;obtain⟨l1,l2,l3,l4,l5⟩:=HL.o;obtain⟨r1,r2,S,r4⟩:=HR.o;obtain⟨a1,a2,a3⟩:=H2.o;have hs:=S.size
  have br:Za4 w2:=fun i hi=>by
   have hz:=QFa S (z.o.2.1 i hi);exact (QEc (a:=⟨1,i,none⟩) (a3.block 1 (QDv _ _ hz) (by omega))).trans hz
  refine (PL w2 w1.heap.size D bd bn 0 IH a2 (by simp[Ax.Bz,IH]) (by rw[GD]) (fun i _=>by rw[GD];rfl) (fun i s h=>by cases h) (fun o h=>by cases h) (by omega) br ⟨g2,g3,g4,by omega⟩).mono ?_;rintro x w' ⟨P,rfl,b1,b2,b3,b4,b5,W,b7⟩;have e2:=a3.size;have C:w2.heap[fb]? =some (.cells #[.int .i64 (-1),.int .i64 (-1),.int .i64 0,.int .i64 0] 35 (0,0)):=(a3.block fb (Zaa r4) (by omega)).trans r4
  have stay:∀k,k<w.heap.size->k≠D->k≠bd->k≠bn->w'.heap[k]? =w.heap[k]? :=fun k hk k1 k2 k3=>by
   rw[W.block k (by omega) k1 k2 k3 (Zu (by omega)),a3.block k (by omega) k1,S.block k hk]
  refine⟨P,rfl,by omega,b2,b3,b4,⟨_,b5⟩,b7,a1.at_ (W.block hb (by omega) z.o.2.2.2.2.1 z.o.2.2.2.2.2.1 z.o.2.2.2.2.2.2 (Zu (by omega))),(W.block fb (Zaa C) (by omega) (by omega) (by omega) (Zj fun cr cu e'=>by rw[C] at e';simp only[QCf,QIq] at e';exact absurd e'.2.1 (by decide))).trans C,⟨W.os.trans (a3.os.trans S.os),W.tape.trans (a3.tape.trans S.tape),W.output.trans (a3.output.trans S.output),by have:=W.size;omega,fun k hk _ k1 k2 k3=>stay k hk k1 k2 k3⟩⟩)
 obtain⟨a0,_⟩:=H2.o.1.cells;have a1:w2.cell? ⟨hb,0,none⟩=some (.pointer (some ⟨D,0,none⟩)):=a0;unfold By at aw;clear a0 z0 z1 z2 z3 c0
 go_upto_region 3 with (go_at_call 35;refine aw.o.mono ?_;rintro _ w3 ⟨P,rfl,b⟩;have HP:=Zz b;clear b)
 have E:=HP.o.host;have b1:=E.cells.2;have f1:w3.frozen? ⟨hb,1,none⟩=false:=E.AD 1;clear a1
 go_upto_region 4 with fail
 obtain⟨w4,I⟩:∃w4,w4=w3.setCell ⟨hb,1,none⟩ (.pointer (some ⟨P,0,none⟩)):=⟨_,rfl⟩;rw[<-I];have u:AA w3 w4 hb:=by rw[I];exact (AA.refl w3 hb).set 1 _
 have G:Bn w4 hb D (.pointer (some ⟨P,0,none⟩)):=by rw[I];exact E.set _
 have bw:=Zz (Zq I (Zq u G));obtain⟨g1,g2,g3,g4⟩:=z.o.2.2.2.1;obtain⟨n1,n2,n3⟩:=z.o.2.2.2.2;obtain⟨l1,l2,l3,l4,l5⟩:=HL.o;obtain⟨r1,r2,S,r4⟩:=HR.o;have cq:=S.size;have b:=HP.o;have J:=b.pw;have O:=b.hf.size;have H:=u.size;have q:=b.pl;have f:∀o v,w3.cell? ⟨P,o,none⟩=some v->w4.cell? ⟨P,o,none⟩=some v:=fun o v e=>(QEc (a:=⟨P,o,none⟩) (u.block P q (by omega))).trans e
 have ag:∀o,w4.frozen? ⟨P,o,none⟩=false:=fun o=>(World.frozen?_of_block (a:=⟨P,o,none⟩) (u.block P q (by omega))).trans (b.log.fz o)
 have hold:∀k,k<w.heap.size->k≠hb->k≠D->k≠bd->k≠bn->w4.heap[k]? =w.heap[k]? :=fun k hk k0 k1 k2 k3=>(u.block k (by omega) k0).trans (b.hf.block k hk k0 k1 k2 k3)
 have bh:1<w.heap.size:=QDv _ _ (z.o.2.1 0 (by omega));have bj:2<w.heap.size:=QDv _ _ (z.o.2.2.1 0 (by omega))
 have ax:AI qh w4 P w3.heap.size w3.heap.size D bd bn none ⟨0,0,0⟩ IH.synced Za1:=by
  refine⟨Vq (fun j v hj=>f _ _ (b.cells j v hj)) ag q H (by have:=HQ.o;omega),⟨f _ _ b.log.c0,f _ _ b.log.c1,f _ _ b.log.c2,f _ _ b.log.c3,ag⟩,?_,fun i hi=> ?_,?_,⟨⟨by omega,by omega,by omega,q,by omega,by omega,by omega,by omega⟩,q,by omega,by omega,by omega⟩⟩
  .obtain⟨R0,ck⟩:=b.dk
   refine Av.raise (R:=R0) (u.fit E.Au (by decide) ck) (by rw[GD]) ?_ H;exact (QEc (a:=⟨D,2,none⟩) (u.block D (by omega) (by omega))).trans b.nil
  .exact (QEc (a:=⟨1,i,none⟩) (hold 1 bh (by omega) (by omega) (by omega) (by omega))).trans (z.o.2.1 i hi)
  .exact z.o.2.2.1.at_ (hold 2 bj (by omega) (by omega) (by omega) (by omega))
 have r:w4.heap[fb]? =some (.cells #[.int .i64 (-1),.int .i64 (-1),.int .i64 0,.int .i64 0] 35 (0,0)):=(u.block fb (Zaa b.UP) (by omega)).trans b.UP;have Z:Ay w4:=(QEc (a:=⟨0,0,none⟩) (hold 0 l5 (by omega) (by omega) (by omega) (by omega))).trans z.o.1
 have T:=Zz (show Calls prog 36 #[.pointer (some ⟨hb,0,none⟩),Zbd (-1) (-1) 0 0] w4 fun x w'=>x=.returned (.tuple #[])/\AI qh w' P w3.heap.size w3.heap.size D bd bn none ⟨0,0,0⟩ IH.synced.calm Za1/\AA w4 w' D/\Bn w' hb D (.pointer (some ⟨P,0,none⟩))/\Ay w' from by
  refine (Zcn w4 hb P _ _ D bd bn none _ _ _ _ _ _ 0 0 ax (by rw[GD]) G).mono ?_;rintro x w' ⟨rfl,q1,l⟩;exact⟨rfl,q1,l,G.at_ (l.block hb (Zaa G.Au) n1),(QEc (a:=⟨0,0,none⟩) (l.block 0 (QDv _ _ Z) (by omega))).trans Z⟩)
 have y0:w4.cell? ⟨fb,0,none⟩=some (.int .i64 (-1)):=by unfold QEk;rw[r];rfl
 have y1:w4.cell? ⟨fb,1,none⟩=some (.int .i64 (-1)):=by unfold QEk;rw[r];rfl
 have y2:w4.cell? ⟨fb,2,none⟩=some (.int .i64 0):=by unfold QEk;rw[r];rfl
 have y3:w4.cell? ⟨fb,3,none⟩=some (.int .i64 0):=by unfold QEk;rw[r];rfl
 have HK:=Zz (Zq hold (Zq H (Zq O (Zq J q))));unfold Zbd at T;clear E b1 f1 I u G g1 g2 g3 g4 n1 n2 n3 l1 l2 l3 l4 l5 r1 r2 S r4 cq b J O H q f ag hold bh bj ax r Z
 go_wp2_with (first
  | (go_at_call 36;refine T.o.mono ?_;rintro _ w5 ⟨rfl,q1,l,V,q4⟩;have H5:=Zz (Zq q1 (Zq l (Zq V q4)));clear q1 l V q4)
  | (go_at_call 37;refine (Zby 0 _ H5.o.2.2.2).mono ?_;rintro _ w6 ⟨rfl,g⟩;have H6:=Zz g;clear g))
 go_ret
 obtain⟨hold,H,O,J,q⟩:=HK.o;obtain⟨q1,l,V,q4⟩:=H5.o;have g:=H6.o;have cy:=l.size
 have cm:HF w w6 hb D bd bn:=by
  have u:=bw.o.2.1;have hf:=HP.o.hf;exact⟨g.os.trans (l.os.trans (u.os.trans hf.os)),g.tape.trans (l.tape.trans (u.tape.trans hf.tape)),g.output.trans (l.output.trans (u.output.trans hf.output)),by have:=g.size;omega,fun k hk k0 k1 k2 k3=>(g.block k (by omega)).trans ((l.block k (by omega) k1).trans (hold k hk k0 k1 k2 k3))⟩
 refine⟨rfl,P,w3.heap.size,⟨⟨_,_,q1.below g,Xl hN⟩,V.at_ (g.block hb (Zaa V.Au)),q4.Ak g,?_⟩,J,O,cm⟩;obtain⟨l1,l2,l3,l4,l5⟩:=HL.o;obtain⟨n1,n2,n3⟩:=z.o.2.2.2.2;exact⟨by omega,by omega,by omega,n1,n2,n3,z.o.2.2.2.1.1⟩
open Go.RowKit
theorem Ux (a:List Nat):a.length<=(Cb a).length:=by
 induction a with
 | nil=>exact QBp _
 | cons v r b=>have:=VU v;simp only[Cb,List.length_cons,ZX];omega
theorem Ef (a:1<=F.n):9<=(Zat F).length:=by
 rw[Ig];have c:=Ux (De F)
 have f:9<=(De F).length:=by
  obtain⟨r,b⟩:=Kl F 1 F.n a;have g:(Zdh F 1).length=7+F.an 0:=by simp[Zdh,Ej]
  simp only[De,ZX,List.length_cons,List.length_nil,b];omega
 omega
theorem Gx.chk (h:Gx F F.n)(a:1<=F.n)(b:F.n<=12):Cn F 0 (-1):=Zj (Zj (Zj (Zj ⟨rfl,rfl,(h.ok a b).1,(h.ok a b).2.1,(h.ok a b).2.2⟩)))
theorem Gx.an (h:Gx F F.n)(a:1<=F.n)(b:F.n<=12):∀i,i<F.n->F.an i<=12:=fun i hi=>by have:=((h.ok a b).2.1 i hi).2.Uo;omega
theorem BW.same {G:Ad}(h:BW F)(q:G.dl=F.dl)(hn:G.n=F.n)(l:Ci F G F.n):BW G:=by
 have p:∀j,j<G.n->Be G j:=fun j a=>by
  have a:j<F.n:=by omega
  obtain⟨a1,a2,a3,a4,a5,z,A,C,a9,r,s,a12⟩:=h.node j a;have b:=l.bu j a;have c:=l.cl j a;have d:=l.be j a;have e:=l.ba j a;have f:=l.ca j a;have g:=l.ji j a;constructor<;>omega
 have o:∀j,j<G.n->AN G j:=fun j a=>by
  have a:j<F.n:=by omega
  intro k hk;have hk:k<F.an j:=by rw[l.an j a];exact hk
  have:=h.Ss j a k hk;unfold CS at this ⊢;rw[<-l.af j a k hk,hn];refine⟨this.1,this.2.1,fun u=> ?_⟩;rw[<-l.af j a (k - 1) (by omega)];exact this.2.2 u
 refine⟨⟨by rw[q];exact h.top.Yg,by rw[q];exact h.top.dl2,by rw[hn];exact h.top.n1,by rw[hn];exact h.top.n2⟩,p,o,fun j a=> ?_⟩;have a:j<F.n:=by omega
 have key:∀i,CY F i->i<F.n->CY G i:=fun i hg=>by
  induction hg with
  | mk i _ x =>
   intro hi;refine .mk i fun k hk=> ?_;have hk:k<F.an i:=by rw[l.an i hi];exact hk
   rw[<-l.af i hi k hk];refine x k hk ?_;have:=h.Ss i hi k hk;unfold CS at this;omega
 exact key j (h.gone j a) a
theorem BW.chk (h:BW F):Cn F 0 (-1):=Zj (Zj (Zj (Zj ⟨rfl,rfl,h.top,fun j a=>⟨h.node j a,h.Ss j a⟩,h.gone⟩)))
theorem BW.nat (h:BW F):∀i,i<F.n->Cp F i:=fun i hi=>Rv h.top (h.node i hi) (h.Ss i hi)
theorem MA (h:BW F){x y:Int}{G:Ad}(q:Co (Zat F).length (BS (Zat F)) x y G):x=0/\G=Zaj (Zat F).length (BS (Zat F))/\BW G/\G.dl=F.dl/\G.n=F.n/\Ci F G F.n:=by
 obtain⟨⟨s,j⟩,c,f,g⟩:=back h.top h.nat;have i:=h.same c f g;have o:=i.chk;rcases q with⟨k,a,_⟩ | ⟨p,k,a,hp,_⟩ | ⟨p,k,a,hp,b,l,r⟩
 .rw[j] at a;cases a
 .rw[j] at a;cases a;omega
 .obtain⟨rfl,rfl⟩:=b.one o
  rw[l rfl];exact⟨rfl,rfl,i,c,f,g⟩
def NZ:Ad:=⟨100,2,fun i=>if i=0 then 2 else 1,fun _=>9,fun _=>0,fun i=>if i=0 then 3 else 1,fun i=>if i=0 then 9 else 1,fun _=>0,fun i=>if i=0 then 0 else 1,fun _ _=>0⟩
theorem SO (h:∀i,i<F.n->∀k,k<F.an i->(F.af i k).toNat<i):∀i,i<F.n->CY F i:=by
 intro i
 induction i using Nat.strongRecOn with
 | _ i a=>exact fun hi=> .mk i fun k hk=>a _ (h i hi k hk) (by have:=h i hi k hk;omega)
theorem UT:BW NZ:=by
 have a:∀j,j<NZ.n->j=0\/j=1:=fun j b=>by
  have:NZ.n=2:=rfl;omega
 refine⟨⟨by decide,by decide,by decide,by decide⟩,fun j b=> ?_,fun j b=> ?_,SO fun j b k hk=> ?_⟩
 .rcases a j b with rfl | rfl<;>(constructor<;>decide)
 .rcases a j b with rfl | rfl
  .intro k hk;exact absurd hk (by show ¬k<0;omega)
  .intro k hk
   obtain rfl:k=0:=by replace hk:k<1:=hk;omega
   exact⟨by decide,by decide,fun h=>absurd h (by decide)⟩
 .rcases a j b with rfl | rfl
  .exact absurd hk (by show ¬k<0;omega)
  .show (0:Int).toNat<1;decide
theorem f2_is {G:Ad}(b:G.dl=NZ.dl)(hn:G.n=NZ.n)(a:Ci NZ G NZ.n):Mo G :=
 ⟨hn,b,(a.bu 0 (by decide)).symm,(a.cl 0 (by decide)).symm,(a.cl 1 (by decide)).symm,(a.be 0 (by decide)).symm,(a.be 1 (by decide)).symm,(a.ba 0 (by decide)).symm,(a.ca 0 (by decide)).symm,(a.ji 0 (by decide)).symm,(a.an 0 (by decide)).symm,(a.an 1 (by decide)).symm,(a.af 1 (by decide) 0 (by decide)).symm⟩
open Go.RowKit
attribute [local go_sem ↓] Go.wp_at_zero Go.wp_at_succ
structure OW (qh:Nat)(w wx:World)(hb P B R D bd bn:Nat)(ob:Option Nat)(N:Nat)(e:Ab):Prop where
 host:AT qh wx hb P B R D bd bn ob N e
 Db:ZY w wx
 GJ:(w.heap.size<=hb/\w.heap.size<=P/\w.heap.size<=D/\w.heap.size<=bd/\w.heap.size<=bn)/\w.heap.size<=B/\w.heap.size<=R
theorem OW.below (h:OW qh w wx hb P B R D bd bn ob N e)(a:ZY wx wy):OW qh w wy hb P B R D bd bn ob N e :=
 ⟨h.host.below a,h.Db.trans (a.mono h.Db.size),h.GJ⟩
theorem OW.call {b:Nat}{a:Option Nat}(h:OW qh w wx hb P B R D bd bn ob N e)(c:AT qh wy hb P B R D bd bn a b e')(hf:EF wx wy P B R D bd bn ob):OW qh w wy hb P B R D bd bn a b e':=by
 refine⟨c,?_,h.GJ⟩;obtain⟨⟨f1,f2,f3,f4,f5⟩,f6,f7⟩:=h.GJ;have f:=h.Db.size;exact⟨hf.os.trans h.Db.os,hf.tape.trans h.Db.tape,hf.output.trans h.Db.output,Zv h.Db.size hf.size,fun k hk=>(hf.block k (by omega) (by omega) (by omega) (by omega) (by omega) (Zu (by omega)) (Zu (by omega))).trans (h.Db.block k hk)⟩
theorem AT.box {k:Nat}(h:AT qh w hb P B R D bd bn ob N e)(hf:EF w w' P B R D bd bn ob)(hk:w.heap[k]? =some (.cells cs t fr))(o:∃q x,cs[0]? =some (.int q x))(r:t≠210/\t≠288/\t≠274/\t≠266/\t≠272/\t≠276/\t≠27)(p:t≠92):w'.heap[k]? =some (.cells cs t fr):=by
 obtain⟨g,d,a,_⟩:=h.ex;obtain⟨z,A,dk,_⟩:=a.dk.c;obtain⟨s,f3⟩:=a.dk.fd;obtain⟨u,f4⟩:=a.dk.fn
 have hm:∀b f j,AE w b f j->k≠b:=fun b f j i e2=>by
  obtain⟨es,c,l,_⟩:=i.own;rw[<-e2,hk] at l;cases l
 refine hf.Cv hk ⟨fun x=> ?_,Zah hk dk.Au p,hm _ _ _ f3,hm _ _ _ f4⟩ r;subst x;have c0:=a.log.c0;rw[Zad hk 0] at c0;obtain⟨q,x,i⟩:=o;rw[i] at c0;unfold By at c0
 cases c0
theorem FG.some_ {a b c f t tk:Int}{y:Bool}{p:Ba}(h:FG e a b c f y e')(he:e.Bl=some (p,t,tk,e2)):a=p.run/\b=p.node/\c=t/\f=tk/\y=true/\e'=e2:=by
 rcases h with⟨h,_⟩ | ⟨i,j,g,h,rfl,rfl,rfl,rfl,rfl⟩
 .rw[he] at h;cases h
 .rw[he] at h
  simp only[QCf,Prod.mk.injEq] at h;obtain⟨rfl,rfl,rfl,rfl⟩:=h;exact⟨rfl,rfl,rfl,rfl,rfl,rfl⟩
theorem FG.none_ {a b c f:Int}{y:Bool}(h:FG e a b c f y e')(he:e.Bl=none):a=0/\b=0/\c=0/\f=0/\y=false/\e'=e:=by
 rcases h with⟨_,h⟩ | ⟨i,j,g,h,_⟩
 .exact h
 .rw[he] at h;cases h
theorem Ir (w:World):Calls prog 13 #[] w fun x w'=>x=.returned (Zbd (-1) (-1) 0 0)/\ZY w w':=by
 unfold Zbd
 go_enter func13,ntmps13
 go_wp2_with fail
 refine bodyPost_ret (results_cell_row rfl _ _ w.heap.size 35 #[.int .i64 (-1),.int .i64 (-1),.int .i64 0,.int .i64 0] (0,0) _ rfl (QFm w _) underlying35 rfl rfl) rfl ⟨rfl,ZV.alloc ZU _⟩
theorem PR {nb ab:Nat}(f:AP w)(hg:2<w.heap.size)
  (hn:w.heap[nb]? =some (.cells #[.int .i64 2,.int .i64 9,.int .i64 0,.int .i64 3,.int .i64 9,.int .i64 0,.slice none 0 0,.int .i64 1,.int .i64 9,.int .i64 0,.int .i64 1,.int .i64 1,.int .i64 0,.slice (some ⟨ab,0,none⟩) 1 1] 130 (0,0)))
  (ha:w.heap[ab]? =some (.cells #[.int .i64 0] 3 (0,0))):FR w NZ (some ⟨nb,0,none⟩) 2 (fun i=>if i=0 then none else some ⟨ab,0,none⟩) (fun i=>if i=0 then 0 else 1):=by
 have b:∀j,j<NZ.n->j=0\/j=1:=fun j g=>by
  have:NZ.n=2:=rfl;omega
 have a:=fun j=>Zad hn j;have c:=Zad ha 0;refine⟨Zj ⟨nb,0,rfl,Zx _,by decide,Zaa hn,fun i hi=> ?_⟩,by decide,by decide,fun i hi h=> ?_,fun i hi=> ?_,f,hg⟩
 .rcases b i hi with rfl | rfl
  .exact⟨a 0,a 1,a 2,a 3,a 4,a 5,a 6,Zu rfl⟩
  .refine⟨a 7,a 8,a 9,a 10,a 11,a 12,a 13,Zj ⟨ab,0,rfl,Zx _,by decide,Zaa ha,fun k hk=> ?_⟩⟩
   obtain rfl:k=0:=by replace hk:k<1:=hk;omega
   exact c
 .rcases b i hi with rfl | rfl
  .rfl
  .simp at h
 .rcases b i hi with rfl | rfl<;>decide
structure OX (qh:Nat)(w wx:World)(hb P B R D bd bn wb:Nat)(ob:Option Nat)(N:Nat)(e:Ab):Prop where
 ow:OW qh w wx hb P B R D bd bn ob N e
 wb:wx.heap[wb]? =some (.cells #[.int .i64 (-1),.int .i64 (-1),.int .i64 0,.int .i64 0] 35 (0,0))
theorem OX.below (h:OX qh w wx hb P B R D bd bn wb ob N e)(a:ZY wx wy):OX qh w wy hb P B R D bd bn wb ob N e :=
 ⟨h.ow.below a,(a.block wb (Zaa h.wb)).trans h.wb⟩
theorem OX.call {b:Nat}{a:Option Nat}(h:OX qh w wx hb P B R D bd bn wb ob N e)(c:AT qh wy hb P B R D bd bn a b e')(hf:EF wx wy P B R D bd bn ob):OX qh w wy hb P B R D bd bn wb a b e' :=
 ⟨h.ow.call c hf,h.ow.host.box hf h.wb ⟨_,_,rfl⟩ (by decide) (by decide)⟩
theorem OX.cells (h:OX qh w wx hb P B R D bd bn wb ob N e):((wx.cell? ⟨wb,0,none⟩=some (.int .i64 (-1))/\wx.cell? ⟨wb,1,none⟩=some (.int .i64 (-1)))/\wx.cell? ⟨wb,2,none⟩=some (.int .i64 0))/\wx.cell? ⟨wb,3,none⟩=some (.int .i64 0):=by
 refine⟨⟨⟨?_,?_⟩,?_⟩,?_⟩<;>(rw[Zad h.wb];rfl)
theorem DV.call {tb:Nat}{a b c f:Int}(t:DV wx tb a b c f)(h:OX qh w wx hb P B R D bd bn wb ob N e)(hf:EF wx wy P B R D bd bn ob):DV wy tb a b c f :=
 ⟨h.ow.host.box hf t.Au ⟨_,_,rfl⟩ (by decide) (by decide)⟩
theorem DV.Dk {tb:Nat}{a b c f:Int}(t:DV wx tb a b c f)(hb:ZY wx wy):DV wy tb a b c f:=⟨(hb.block tb (Zaa t.Au)).trans t.Au⟩
theorem Dl (b:e.Ah<=100)(c:e.Ai<=1000000)(a:e.Ar=0):Az e:=⟨Int.lt_of_le_of_lt b (by decide),Int.lt_of_le_of_lt c (by decide),by rw[a];decide,by rw[a];decide⟩
theorem Nb {j i t tk:Int}{p:Ba}(h:OX qh w wx hb P B R D bd bn wb ob N e)(ok:Aj e)(AZ:Az e)(l:N<=1000000000000)(he:e.Bl=some (p,t,tk,e2))(o:p.run=j)(hn:(p.node:Int)=i) :
  Calls prog 61 #[.pointer (some ⟨hb,0,none⟩),.agg #[.int .i64 (-1),.int .i64 (-1),.int .i64 0,.int .i64 0]] wx fun x w'=>x=.returned (.tuple #[.agg #[.int .u64 j,.int .i64 i,.int .i64 t,.int .u64 tk],.bool true,.int .i64 0])/\∃g,OX qh w w' hb P B R D bd bn wb g (N+1000000) e2/\EF wx w' P B R D bd bn ob:=by
 refine (Ih wx hb P B R D bd bn N ob e h.ow.host ok AZ l).mono ?_;rintro x w' ⟨g,a,b,c,f,y,e',rfl,q1,q,r,k⟩;obtain⟨rfl,rfl,rfl,rfl,rfl,rfl⟩:=q1.some_ he;subst o hn;exact⟨rfl,g,h.call q k,k⟩
theorem Wp (h:OX qh w wx hb P B R D bd bn wb ob N e)(ok:Aj e)(AZ:Az e)(j:N<=1000000000000)(he:e.Bl=none) :
  Calls prog 61 #[.pointer (some ⟨hb,0,none⟩),.agg #[.int .i64 (-1),.int .i64 (-1),.int .i64 0,.int .i64 0]] wx fun x w'=>x=.returned (.tuple #[.agg #[.int .u64 0,.int .i64 0,.int .i64 0,.int .u64 0],.bool false,.int .i64 0])/\∃g,OX qh w w' hb P B R D bd bn wb g (N+1000000) e/\EF wx w' P B R D bd bn ob:=by
 refine (Ih wx hb P B R D bd bn N ob e h.ow.host ok AZ j).mono ?_;rintro x w' ⟨g,a,b,c,f,y,e',rfl,q1,k,l,i⟩;obtain⟨rfl,rfl,rfl,rfl,rfl,rfl⟩:=q1.none_ he;exact⟨rfl,g,h.call k i,i⟩
theorem IY (h:OX qh w wx hb P B R D bd bn wb ob N e)(ok:Aj e)(AZ:Az e)(c:N<=1000000000000)(hn:n<18446744073709551616)(hm:(n:Int)=m)(he:e.complete m=some e2) :
  Calls prog 26 #[.pointer (some ⟨hb,0,none⟩),.int .i64 4,.int .u64 m,.agg #[.int .i64 (-1),.int .i64 (-1),.int .i64 0,.int .i64 0]] wx fun x w'=>x=.returned (.int .i64 0)/\∃a,OX qh w w' hb P B R D bd bn wb a (N+1000000) e2/\EF wx w' P B R D bd bn ob:=by
 subst hm;have:=Ok wx hb P B R D bd bn N ob e n h.ow.host ok AZ c hn;rw[he] at this;refine this.mono ?_;rintro x w' ⟨a,rfl,f,g,b⟩;exact⟨rfl,a,h.call f b,b⟩
theorem YV (h:OX qh w wx hb P B R D bd bn wb ob N e)(ok:Aj e)(AZ:Az e)(c:N<=1000000000000)(hn:n<18446744073709551616)(hm:(n:Int)=m)(he:e.fail m=some e2) :
  Calls prog 26 #[.pointer (some ⟨hb,0,none⟩),.int .i64 5,.int .u64 m,.agg #[.int .i64 (-1),.int .i64 (-1),.int .i64 0,.int .i64 0]] wx fun x w'=>x=.returned (.int .i64 0)/\∃a,OX qh w w' hb P B R D bd bn wb a (N+1000000) e2/\EF wx w' P B R D bd bn ob:=by
 subst hm;have:=Ol wx hb P B R D bd bn N ob e n h.ow.host ok AZ c hn;rw[he] at this;refine this.mono ?_;rintro x w' ⟨a,rfl,f,g,b⟩;exact⟨rfl,a,h.call f b,b⟩
theorem YW (h:OX qh w wx hb P B R D bd bn wb ob N e)(ok:Aj e)(AZ:Az e)(c:N<=1000000000000)(hn:n<18446744073709551616)(hm:(n:Int)=m) :
  Calls prog 26 #[.pointer (some ⟨hb,0,none⟩),.int .i64 7,.int .u64 m,.agg #[.int .i64 (-1),.int .i64 (-1),.int .i64 0,.int .i64 0]] wx fun x w'=>x=.returned (.int .i64 0)/\∃a e2,BR e m e2/\OX qh w w' hb P B R D bd bn wb a (N+1000000) e2/\EF wx w' P B R D bd bn ob:=by
 subst hm;refine (Om wx hb P B R D bd bn N ob e n h.ow.host ok AZ c hn).mono ?_;rintro x w' ⟨a,e2,rfl,q1,f,g,b⟩;exact⟨rfl,a,e2,q1,h.call f b,b⟩
theorem Tp {B0 g c:Nat}{L:Nat}(h:OX qh w wx hb P B R D bd bn wb ob N e)(ok:Aj e)(AZ:Az e)(p:N<=1000000000000)(b:BW F)(o:L=(Zat F).length)(q:Al B0 wx (.slice (some ⟨g,0,none⟩) L c) (Zat F)) :
  Calls prog 60 #[.pointer (some ⟨hb,0,none⟩),.slice (some ⟨g,0,none⟩) L c,.agg #[.int .i64 (-1),.int .i64 (-1),.int .i64 0,.int .i64 0]] wx fun x w'=>∃G n f e2 a,x=.returned (.tuple #[.int .u64 n,.int .i64 f,.int .i64 (-1)])/\(BW G/\G.dl=F.dl/\G.n=F.n/\Ci F G F.n)/\f=CO 5 (e.AM G)/\n=(if f=0 then e.Ah+1 else 0)/\e2=(e.AM G).getD e/\OX qh w w' hb P B R D bd bn wb a (N+1000000) e2/\EF wx w' P B R D bd bn ob:=by
 have l:1<=(Zat F).length:=by have:=Ef (F:=F) b.top.n1;omega
 have C:=LD b.top b.nat;subst o;refine (IK wx hb P B R D bd bn N B0 g c ob e (Zat F) h.ow.host ok AZ p q (JO F) l (by omega)).mono ?_;rintro x w' ⟨a,n,f,at_,e',rfl,q1,r,E,j⟩;rcases q1 with⟨i,k,_⟩ | ⟨y,i,rfl,rfl,rfl,rfl⟩
 .exact absurd (MA b k).1 i
 .obtain⟨_,r2,s,u,z,A⟩:=MA b i
  exact⟨_,_,_,_,a,rfl,⟨s,u,z,A⟩,rfl,rfl,rfl,h.call r j,j⟩
theorem o1_lim (f:Ad):Az (o1 f):=Dl (by show (1:Int)<=100;decide) (by show (0:Int)<=1000000;decide) rfl
theorem VY (f:Ad):Az (o2 f):=Dl (by show (1:Int)<=100;decide) (by show (1:Int)<=1000000;decide) rfl
theorem o3_lim (f:Ad):Az (o3 f):=Dl (by show (1:Int)<=100;decide) (by show (1:Int)<=1000000;decide) rfl
theorem o4_lim (f:Ad):Az (o4 f):=Dl (by show (1:Int)<=100;decide) (by show (1:Int)<=1000000;decide) rfl
theorem o5_lim (f:Ad):Az (o5 f):=Dl (by show (1:Int)<=100;decide) (by show (2:Int)<=1000000;decide) rfl
theorem o6_lim (f:Ad):Az (o6 f):=Dl (by show (1:Int)<=100;decide) (by show (2:Int)<=1000000;decide) rfl
theorem o7_lim (f:Ad):Az (o7 f):=Dl (by show (1:Int)<=100;decide) (by show (3:Int)<=1000000;decide) rfl
theorem YB:Az Za1:=Dl (by show (0:Int)<=100;decide) (by show (0:Int)<=1000000;decide) rfl
theorem Wl {w4:World}{nb ab:Nat}(k:AP w4)(j:Ay w4)(hg:2<w4.heap.size)(hb:ZY w4 wx)
  (hn:wx.heap[nb]? =some (.cells #[.int .i64 2,.int .i64 9,.int .i64 0,.int .i64 3,.int .i64 9,.int .i64 0,.slice none 0 0,.int .i64 1,.int .i64 9,.int .i64 0,.int .i64 1,.int .i64 1,.int .i64 0,.slice (some ⟨ab,0,none⟩) 1 1] 130 (0,0))) (ha:wx.heap[ab]? =some (.cells #[.int .i64 0] 3 (0,0))) :
  Calls prog 59 #[.agg #[.int .i64 100,.slice (some ⟨nb,0,none⟩) 2 2]] wx fun x w'=>∃i c,x=.returned (.tuple #[.slice (some ⟨i,0,none⟩) (Zat NZ).length c,.int .i64 0,.int .i64 (-1)])/\Al wx.heap.size w' (.slice (some ⟨i,0,none⟩) (Zat NZ).length c) (Zat NZ)/\ZY w4 w':=by
 refine (IZ NZ (some ⟨nb,0,none⟩) 2 _ _ wx (PR (k.Ak hg hb) (Zy hg hb.size) hn ha) (j.Ak hb)).mono ?_;rintro e q ⟨⟨v,x,y,l,rfl,b,a,h,o⟩,f⟩;obtain⟨rfl,rfl⟩:=b.one UT.chk;obtain rfl:=h rfl;have p:1<=(Zat NZ).length:=by have:=Ef (F:=NZ) (by decide);omega
 rcases a.2 with⟨_,x2⟩ | ⟨g,cap,cur,rfl,_⟩
 .omega
 .exact⟨g,cap,rfl,a,hb.trans (f.mono hb.size)⟩
theorem Tn (h:Ra w1 hb D bd bn)(c:ZY w w1)(hl:w.heap.size<=hb/\w.heap.size<=D/\w.heap.size<=bd/\w.heap.size<=bn)(p:hb≠D/\hb≠bd/\hb≠bn)(b:ZY w1 w3)(hw:w1.heap.size<=wb)(l:w3.heap[wb]? =some (.cells #[.int .i64 (-1),.int .i64 (-1),.int .i64 0,.int .i64 0] 35 (0,0)))(he:Ay w)(q:Za4 w)(G:AP w)(hg:4<w.heap.size)(o:2<w.heap.size)(z:0<w.heap.size)(A:qh<w.heap.size) :
  Calls prog 12 #[.pointer (some ⟨hb,0,none⟩),.agg #[.int .i64 (-1),.int .i64 (-1),.int .i64 0,.int .i64 0]] w3 fun x w'=>x=.returned (.int .i64 0)/\∃P B,OX qh w w' hb P B B D bd bn wb none 2000000 Za1:=by
 have a:=c.trans (b.mono c.size);obtain⟨r,g⟩:=h.fd;obtain⟨s,j⟩:=h.fn;have H:=Zaa h.host.Au;have I:=Zaa h.dk.Au;have J:=g.lt;have K:=j.lt;have u:Ra w3 hb D bd bn:=⟨h.host.at_ (b.block hb H),h.dk.at_ (b.block D I),⟨r,g.below b⟩,⟨s,j.below b⟩,h.ne⟩;have E:=b.size;refine (Qa w3 hb D bd bn 2000000 u (he.Ak a) (fun i hi=>QFa a (q i hi)) (G.Ak o a) ⟨by omega,by omega,by omega,by omega⟩ p ZU (Zy A a.size)).mono ?_;rintro x w' ⟨rfl,P,B,q1,L,M,f⟩;have C:=c.size;refine⟨rfl,P,B,⟨q1,⟨f.os.trans a.os,f.tape.trans a.tape,f.output.trans a.output,Zv a.size f.size,fun k hk=>(f.block k (by omega) (by omega) (by omega) (by omega) (by omega)).trans (a.block k hk)⟩,⟨by omega,by omega,by omega,by omega,by omega⟩,by omega,by omega⟩,(f.block wb (Zaa l) (by omega) (by omega) (by omega) (by omega)).trans l⟩
theorem Wg {f:Ad}(h:AT qh w hb P B R D bd bn ob N (o8 f)) :
  Calls prog 27 #[.pointer (some ⟨hb,0,none⟩),.int .u64 1] w fun x w'=>∃a1 n1 c1 a2 n2 c2,x=.returned (.tuple #[.agg #[.int .u64 1,.int .i64 2,.slice a1 n1 c1,.slice a2 n2 c2],.int .i64 0])/\ZY w w':=by
 have hf:(o8 f).find 1=some 0:=rfl;refine (JS w hb P B R D bd bn N ob (o8 f) 1 h).mono ?_;rintro x w' ⟨v,a,rfl,q,hb⟩;rcases q with⟨q,_⟩ | ⟨i,a1,a2,c1,c2,q1,rfl,rfl,_⟩
 .rw[hf] at q;cases q
 .rw[hf] at q1
  cases q1
  exact⟨_,_,_,_,_,_,rfl,hb⟩
theorem Qz (w:World)(he:Ay w)(dd:Za4 w)(k:AP w)(hg:4<w.heap.size)(dc:2<w.heap.size)(db:0<w.heap.size)(hq:qh<w.heap.size) :
  Calls prog 58 #[] w fun x w'=>∃hb P B R D bd bn ob f,x=.returned (.pointer (some ⟨hb,0,none⟩))/\OW qh w w' hb P B R D bd bn ob 11000000 (o8 f)/\Mp f:=by
 have HQ:=Zz hq;clear hq;have O:=Zz (Zq he (Zq dd (Zq k (Zq hg (Zq dc db)))));have HW:=Zz (fun wx=>Ir wx);unfold Zbd at HW;clear he dd k hg dc db
 go_enter func58,ntmps58
 go_upto_region 2 with (go_at_call 11;go_loud (refine (OE w).mono ?_;rintro _ w1 ⟨hb,D,bd,bn,rfl,C,I,E,T,h5,h6⟩;have H1:=Zz (Zq C (Zq I (Zq (Zq E (Zq T h5)) h6)));clear C I E T h5 h6))
 go_upto_region 3 with (go_at_call 13;refine (HW.o w1).mono ?_;rintro _ w2 ⟨rfl,cq⟩;have H2:=Zz cq;clear cq)
 obtain⟨wb,V⟩:∃wb,wb=w2.heap.size:=⟨_,rfl⟩;obtain⟨w3,U⟩:∃w3,w3=w2.alloc (.cells #[.int .i64 (-1),.int .i64 (-1),.int .i64 0,.int .i64 0] 35):=⟨_,rfl⟩;rw[<-U,<-V];have cr:ZY w1 w3:=by rw[U];exact H2.o.alloc H2.o.size _
 have H:w3.heap[wb]? =some (.cells #[.int .i64 (-1),.int .i64 (-1),.int .i64 0,.int .i64 0] 35 (0,0)):=by rw[U,V];exact QFm w2 _
 have dh:w1.heap.size<=wb:=by rw[V];exact H2.o.size
 have ay:=Zz (Tn H1.o.1 H1.o.2.2.2 H1.o.2.1 H1.o.2.2.1 cr dh H O.o.1 O.o.2.1 O.o.2.2.1 O.o.2.2.2.1 O.o.2.2.2.2.1 O.o.2.2.2.2.2 HQ.o);have z0:w3.cell? ⟨wb,0,none⟩=some (.int .i64 (-1)):=Zad H 0;have M:w3.cell? ⟨wb,1,none⟩=some (.int .i64 (-1)):=Zad H 1;have z2:w3.cell? ⟨wb,2,none⟩=some (.int .i64 0):=Zad H 2;have z3:w3.cell? ⟨wb,3,none⟩=some (.int .i64 0):=Zad H 3;clear cr H dh U V
 go_upto_region 4 with (go_at_call 12;refine ay.o.mono ?_;rintro _ w4 ⟨rfl,P,B,q⟩;have X4:=Zz q;clear q)
 have X:=Zz (fun (wx:World) (nb ab:Nat)=>Wl (w4:=w4) (wx:=wx) (nb:=nb) (ab:=ab) (O.o.2.2.1.Ak O.o.2.2.2.2.1 X4.o.ow.Db) X4.o.ow.host.err (Zy O.o.2.2.2.2.1 X4.o.ow.Db.size));obtain⟨L,hL⟩:∃L,L=(Zat NZ).length:=⟨_,rfl⟩;rw[<-hL] at X;have HL:=Zz hL;clear z0 M z2 z3 hL
 go_upto_region 5 with (go_at_call 59;refine (X.o _ (w4.heap.size+1) w4.heap.size ((ZV.alloc ZU _).alloc (by simp) _) (Zbm _ _ _ _ (by simp)) (by rw[Zam _ _ _ (by simp)];exact QFm _ _)).mono ?_;rintro _ w5 ⟨bg,c,rfl,q1,a⟩;have X5:=Zz (Zq (X4.o.below a) q1);clear q1 a)
 have z:=X5.o.1.cells;obtain⟨⟨⟨z0,M⟩,z2⟩,z3⟩:=z;have ck:=Zz (Tp X5.o.1 Fk YB (by omega) UT HL.o X5.o.2);clear X
 go_upto_region 6 with (go_at_call 60;refine ck.o.mono ?_;rintro _ w6 ⟨f,n,er,e2,ey,rfl,hf,C,I,E,T,h5⟩;have X6:=Zz (Zq hf (Zq C (Zq I (Zq E T))));clear hf C I E T h5)
 obtain⟨⟨cu,cy,cz,da⟩,C,I,E,T⟩:=X6.o;have hF:=f2_is cy cz da;have hC:=YS hF cu;rw[VW hF] at C E
 replace C:er=0:=C
 replace E:e2=o1 f:=E
 subst C E
 replace I:n=1:=I
 subst I;have HF:=Zz (Zq hF hC);have du:=Zz T;obtain⟨⟨⟨z0,M⟩,z2⟩,z3⟩:=T.cells;clear cu cy cz da T hF hC X5 ck ay;have az:=Zz (Nb du.o HF.o.2.k1 (o1_lim f) (by omega) (VX HF.o.1) rfl rfl)
 go_upto_region 7 with (go_at_call 61;refine az.o.mono ?_;rintro _ w7 ⟨rfl,ez,q1,a⟩;have X7:=Zz q1;clear q1 a)
 obtain⟨ta,ag⟩:∃ta,ta=w7.heap.size:=⟨_,rfl⟩;obtain⟨y7,W⟩:∃y7,y7=w7.alloc (.cells #[.int .u64 1,.int .i64 0,.int .i64 1,.int .u64 1] 48):=⟨_,rfl⟩;rw[<-W,<-ag];have b:=X7.o.below (show ZY w7 y7 from by rw[W];exact ZV.alloc ZU _);have k:DV y7 ta 1 0 1 1:=⟨by rw[W,ag];exact QFm _ _⟩;have Y7:=Zz (Zq b k);obtain⟨⟨⟨z0,M⟩,z2⟩,z3⟩:=b.cells;clear b k W ag X7 az X6;have bf:=Zz (Wp Y7.o.1 HF.o.2.k2 (VY f) (by omega) (YO f))
 go_upto_region 8 with (go_at_call 61;refine bf.o.mono ?_;rintro _ w8 ⟨rfl,fe,q1,a⟩;have X8:=Zz (Zq q1 (Y7.o.2.call Y7.o.1 a));clear q1 a)
 obtain⟨y8,au⟩:∃y8,y8=w8.alloc (.cells #[.int .u64 0,.int .i64 0,.int .i64 0,.int .u64 0] 48):=⟨_,rfl⟩;obtain⟨tx,de⟩:∃tx,tx=w8.heap.size:=⟨_,rfl⟩;rw[<-au,<-de];have Z:ZY w8 y8:=by rw[au];exact ZV.alloc ZU _
 have b:=X8.o.1.below Z;have k:=X8.o.2.Dk Z;have Y8:=Zz (Zq b k);obtain⟨⟨⟨z0,M⟩,z2⟩,z3⟩:=b.cells;obtain⟨⟨⟨_,_⟩,_⟩,k3⟩:=k.cells;clear b k au de Z X8 bf Y7;have bh:=Zz (YV (n:=1) (m:=1) Y8.o.1 HF.o.2.k2 (VY f) (by omega) (by omega) rfl (VZ HF.o.1))
 go_upto_region 9 with (go_at_call 26;refine bh.o.mono ?_;rintro _ w9 ⟨rfl,fg,q1,a⟩;have X9:=Zz (Zq q1 (Y8.o.2.call Y8.o.1 a));clear q1 a)
 obtain⟨⟨⟨z0,M⟩,z2⟩,z3⟩:=X9.o.1.cells;clear k3 Y8 bh;have bj:=Zz (YW (n:=3) (m:=3) X9.o.1 HF.o.2.k3 (o3_lim f) (by omega) (by omega) rfl)
 go_upto_region 10 with (go_at_call 26;refine bj.o.mono ?_;rintro _ fh ⟨rfl,dy,e4,q0,q1,a⟩;have cm:=Zz (Zq q0 (Zq q1 (X9.o.2.call X9.o.1 a)));clear q0 q1 a)
 obtain⟨q0,q1,a⟩:=cm.o;obtain rfl:=YP q0;have S:=Zz (Zq q1 a);obtain⟨⟨⟨z0,M⟩,z2⟩,z3⟩:=q1.cells;clear q0 q1 a X9 bj cm;have bo:=Zz (Nb S.o.1 HF.o.2.k4 (o4_lim f) (by omega) (Wc HF.o.1) rfl rfl)
 go_upto_region 11 with (go_at_call 61;refine bo.o.mono ?_;rintro _ KT ⟨rfl,ee,q1,a⟩;have Y:=Zz (Zq q1 (S.o.2.call S.o.1 a));clear q1 a)
 obtain⟨dj,p⟩:∃y,y=KT.alloc (.cells #[.int .u64 1,.int .i64 0,.int .i64 2,.int .u64 2] 48):=⟨_,rfl⟩;obtain⟨tb,aj⟩:∃tb,tb=KT.heap.size:=⟨_,rfl⟩;rw[<-p,<-aj];have K:ZY KT dj:=by rw[p];exact ZV.alloc ZU _
 have b:=Y.o.1.below K;have k:=Y.o.2.Dk K;have G:DV dj tb 1 0 2 2:=⟨by rw[p,aj];exact QFm _ _⟩;have A:=Zz (Zq b (Zq k G));obtain⟨⟨⟨z0,M⟩,z2⟩,z3⟩:=b.cells;obtain⟨⟨⟨_,_⟩,_⟩,k3⟩:=G.cells;clear b k G p aj K Y bo S;have bp:=Zz (IY (n:=2) (m:=2) A.o.1 HF.o.2.k5 (o5_lim f) (by omega) (by omega) rfl (Wd HF.o.1))
 go_upto_region 12 with (go_at_call 26;refine bp.o.mono ?_;rintro _ fi ⟨rfl,eg,q1,a⟩;have j:=Zz (Zq q1 (Zq (A.o.2.1.call A.o.1 a) (A.o.2.2.call A.o.1 a)));clear q1 a)
 obtain⟨⟨⟨z0,M⟩,z2⟩,z3⟩:=j.o.1.cells;clear k3 A bp;have br:=Zz (Nb j.o.1 HF.o.2.k6 (o6_lim f) (by omega) (We HF.o.1) rfl rfl)
 go_upto_region 13 with (go_at_call 61;refine br.o.mono ?_;rintro _ aw ⟨rfl,ei,q1,a⟩;have Q:=Zz (Zq q1 (Zq (j.o.2.1.call j.o.1 a) (j.o.2.2.call j.o.1 a)));clear q1 a)
 obtain⟨dp,r⟩:∃y,y=aw.alloc (.cells #[.int .u64 1,.int .i64 1,.int .i64 1,.int .u64 3] 48):=⟨_,rfl⟩;obtain⟨tc,al⟩:∃tc,tc=aw.heap.size:=⟨_,rfl⟩;rw[<-r,<-al];have l:ZY aw dp:=by rw[r];exact ZV.alloc ZU _
 have b:=Q.o.1.below l;have k:=Q.o.2.1.Dk l;have G:=Q.o.2.2.Dk l;have ae:DV dp tc 1 1 1 3:=⟨by rw[r,al];exact QFm _ _⟩;have g:=Zz (Zq b (Zq k (Zq G ae)));obtain⟨⟨⟨z0,M⟩,z2⟩,z3⟩:=b.cells;obtain⟨⟨⟨_,_⟩,_⟩,k3⟩:=ae.cells;clear b k G ae r al l j Q br;have bw:=Zz (IY (n:=3) (m:=3) g.o.1 HF.o.2.k7 (o7_lim f) (by omega) (by omega) rfl (Wf HF.o.1))
 go_upto_region 14 with (go_at_call 26;refine bw.o.mono ?_;rintro _ fj ⟨rfl,ep,q1,a⟩;have u:=Zz (Zq q1 (Zq (g.o.2.1.call g.o.1 a) (Zq (g.o.2.2.1.call g.o.1 a) (g.o.2.2.2.call g.o.1 a))));clear q1 a)
 clear k3 z0 M z2 z3 g bw;have HQ:=Zz (Wg u.o.1.ow.host)
 go_upto_region 15 with (go_at_call 27;refine HQ.o.mono ?_;rintro _ ax ⟨u1,u2,u3,u4,u5,u6,rfl,hb⟩;have b:=u.o.1.below hb;have C:=u.o.2.1.Dk hb;have I:=u.o.2.2.1.Dk hb;have E:=u.o.2.2.2.Dk hb;have J:=Zz (Zq b (Zq C (Zq I E)));clear b C I E hb)
 obtain⟨dr,s⟩:∃y,y=ax.alloc (.cells #[.int .u64 1,.int .i64 2,.slice u1 u2 u3,.slice u4 u5 u6] 50):=⟨_,rfl⟩;obtain⟨ti,ar⟩:∃ti,ti=ax.heap.size:=⟨_,rfl⟩;rw[<-s,<-ar];have i:ZY ax dr:=by rw[s];exact ZV.alloc ZU _
 have b:=J.o.1.below i;obtain⟨⟨⟨_,a1⟩,a2⟩,a3⟩:=(J.o.2.1.Dk i).cells;obtain⟨⟨⟨_,b1⟩,b2⟩,b3⟩:=(J.o.2.2.1.Dk i).cells;obtain⟨⟨⟨_,c1⟩,_⟩,_⟩:=(J.o.2.2.2.Dk i).cells;have i1:dr.cell? ⟨ti,1,none⟩=some (.int .i64 2):=by rw[s,ar,Zad (QFm _ _)];rfl
 have dw:=Zz b;clear b s ar i HQ u J;go_wp2_with fail
 go_ret
 exact⟨hb,P,B,B,D,bd,bn,_,f,rfl,dw.o.ow,HF.o.2⟩
