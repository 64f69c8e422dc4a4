import Derived.Test.YtgdcjccbdmcebaaGreatDoorM47
import Derived.Maps.RangeWalk
import Derived.Maps.Ext
set_option linter.unusedSimpArgs false
set_option linter.unusedVariables false
set_option maxHeartbeats 8000000
set_option maxRecDepth 100000
open Go.Proofs.Tryz
namespace Go.Proofs.YtgdcjccbdmcebaaGreatDoor
open Go.RowKit
attribute [local go_sem ↓] Go.wp_at_zero Go.wp_at_succ
variable {w w':World}{fr:Nat×Nat}{cs:Array Value}{t:TypeId}{y:DataW Unit×List MemPlace}{v:Value}{D bd bn:Nat}{d:Ay}
theorem Ry:Tryz.zeroCells165=([Value.nilIface,Value.int .i64 0,Value.int .i64 0,Value.nilIface]++GI).toArray:=by kernel_rfl
theorem Yy:Tryz.zeroCells165.size=731:=by kernel_rfl
theorem Zd4 {b:Nat}(h:w.heap[b]? =some (.cells cs t fr)){j:Nat}(a:cs[j]? =some v):w.cell? ⟨b,j,none⟩=some v:=by simp[World.cell?,h,a]
theorem GJ {b:Nat}(h:w.heap[b]? =some (.cells Tryz.zeroCells165 t fr)){j:Nat}(a:([Value.nilIface,Value.int .i64 0,Value.int .i64 0,Value.nilIface]++GI)[j]? =some v):w.cell? ⟨b,j,none⟩=some v:=Zd4 h (by rw[Ry];simpa using a)
structure OpR (w wc:World)(P R D bd bn lb:Nat)(d:Ay):Prop where
 lg:wc.heap[lb]? =some (.cells #[Bw D, .int .i64 0, .int .i64 0, .nilIface] 148 (0,0))
 p:wc.heap[P]? =some (.cells Tryz.zeroCells165 165 (0,0))
 dk:Av wc R D bd bn d
 df:DF w wc R D bd bn
 nil:wc.cell? ⟨D,2,none⟩=some (.slice none 0 0)
theorem OpR.new {a:World}{P R:Nat}(p:a.heap[P]? =some (.cells Tryz.zeroCells165 165 (0,0)))(dk:Av a R D bd bn d)(df:DF w a R D bd bn)(nil:a.cell? ⟨D,2,none⟩=some (.slice none 0 0)):OpR w (a.alloc (.cells #[Bw D, .int .i64 0, .int .i64 0, .nilIface] 148)) P R D bd bn a.heap.size d:=by
 have b:Below a.heap.size a (a.alloc (.cells #[Bw D, .int .i64 0, .int .i64 0, .nilIface] 148)):=(Zk _ _).alloc (Zx _) _;exact⟨heap_alloc_new _ _,(b.block P (Zaa p)).trans p,dk.below b,df.trans (DF.Ae R D bd bn b),cell_later b nil⟩
theorem Ax.fit {R rb:Nat}(a:Ax w w' rb)(g:w.heap[rb]? =some (.cells cs t fr))(h:t≠9/\t≠210/\t≠92)(dk:Av w R D bd bn d):Av w' R D bd bn d:=by
 obtain⟨r,s,q,_⟩:=dk.c;obtain⟨o,f3⟩:=dk.fd;obtain⟨p,f4⟩:=dk.fn
 have hm:∀b f i,AB w b f i->b≠rb:=fun b f i n l=>by
  obtain⟨es,c,j,_⟩:=n.own;rw[l,g] at j;cases j
 exact dk.Aj a.size (a.block D (Zaa q.Au) (Zai q.Au g (Ne.symm h.2.2))) (a.block bd f3.lt (hm _ _ _ f3)) (a.block bn f4.lt (hm _ _ _ f4)) (fun k cs u fr e m=>a.block k (Zaa e) (Zai e g (by rcases m with rfl | rfl;exact Ne.symm h.1;exact Ne.symm h.2.1)))
theorem DF.Jr {c:World}{R rb:Nat}(h:DF w c R D bd bn)(a:Ax c w' rb)(e:w.heap.size<=rb):DF w w' R D bd bn :=
 ⟨a.os.trans h.os,a.tape.trans h.tape,a.output.trans h.output,Zv h.size a.size,fun k b a1 a2 a3 a4=>(a.block k (Zy b h.size) (by omega)).trans (h.block k b a1 a2 a3 a4)⟩
theorem OpR.old {b:World}{P R lb:Nat}(p:b.heap[P]? =some (.cells Tryz.zeroCells165 165 (0,0)))(dk:Av b R D bd bn d)(df:DF w b R D bd bn)(hl:b.heap[lb]? =some (.cells #[.nilIface, .int .i64 0, .int .i64 0, .nilIface] 148 (0,0)))(f:w.heap.size<=lb)(nil:b.cell? ⟨D,2,none⟩=some (.slice none 0 0))(c:D≠lb):OpR w ((((b.setCell ⟨lb,0,none⟩ (Bw D)).setCell ⟨lb,1,none⟩ (.int .i64 0)).setCell ⟨lb,2,none⟩ (.int .i64 0)).setCell ⟨lb,3,none⟩ .nilIface) P R D bd bn lb d:=by
 have e:=Ax.Iq b lb (Bw D) (.int .i64 0) (.int .i64 0) .nilIface;exact⟨by rw[Zab (Zab (Zab (Zab hl _) _) _) _];rfl,(e.block P (Zaa p) (Zai p hl (by decide))).trans p,e.fit hl (by decide) dk,df.Jr e f,(World.cell?_of_block (a:=⟨D,2,none⟩) (e.block D (World.block_lt_of_cell? _ _ nil) c)).trans nil⟩
theorem PU (w:World)(R D bd bn M:Nat)(d:Ay)(h:Av w R D bd bn d)(hw:d.Bx=0)(K:d.synced.down=false)(hn:∀i,i<3->d.synced.now i=none)(hs:Hr d.CJ M)(O:∀o∈d.Ap,o.data.length<=M)(hM:M<=1099511627776)(N:Za4 w)(L:4<D/\4<bd/\4<bn/\4<R) :
  Calls prog 35 #[Bw D] w fun x w'=>∃P,x= .returned (.tuple #[.pointer (some ⟨P,0,none⟩), .nilIface])/\w.heap.size<=P/\P<w'.heap.size/\Bp w' P D ⟨0,0,0⟩/\(∀j v,GI[j]? =some v->w'.cell? ⟨P,4+j,none⟩=some v)/\Av w' R D bd bn d.synced/\DF w w' R D bd bn/\w'.cell? ⟨D,2,none⟩=some (.slice none 0 0):=by
 obtain⟨P,W⟩:∃P,P=w.heap.size:=⟨_,rfl⟩;obtain⟨l,r⟩:∃l,l=w.alloc (.cells Tryz.zeroCells165 165):=⟨_,rfl⟩;have n:Below w.heap.size w l:=by rw[r];exact (Zk _ _).alloc (Zx _) _
 have B:l.heap[P]? =some (.cells Tryz.zeroCells165 165 (0,0)):=by rw[r,W];exact heap_alloc_new w _
 obtain⟨pa,pc,dk,_⟩:=h.c;obtain⟨Dd,f3⟩:=h.fd;obtain⟨Dn,f4⟩:=h.fn;have I:=Zaa dk.Au;have X:=f3.lt;have Z:=f4.lt
 have m:=Zz (show ∀wx v1 v2,Below l.heap.size l wx->Calls prog 79 #[Bw D,v1,v2] wx fun x w'=>x= .returned (.tuple #[Jl D, .nilIface])/\Av w' R D bd bn d.synced/\DF w w' R D bd bn/\w'.cell? ⟨D,2,none⟩=some (.slice none 0 0)/\w'.heap[P]? =some (.cells Tryz.zeroCells165 165 (0,0))/\∀k cs,w.heap.size<=k->wx.heap[k]? =some (.cells cs 148 (0,0))->w'.heap[k]? =some (.cells cs 148 (0,0)) from fun wx v1 v2 J=>by
  have z:Below w.heap.size w wx:=n.trans (J.mono n.size);refine (Qt wx R D bd bn M d v1 v2 (h.below z) hw K hn hs O hM (fun i hi=>cell_later z (N i hi)) L).mono ?_;rintro x w' ⟨rfl,q1,s,F⟩;have C:=(J.block P (Zaa B)).trans B;refine⟨rfl,q1,(DF.Ae R D bd bn z).trans s,F,(s.block P (Zaa C) (by omega) (by omega) (by omega) (Zj fun U V e'=>by rw[C] at e';simp only[Option.some.injEq,Obj.cells.injEq] at e';exact absurd e'.2.1 (by decide))).trans C,fun k cs hk A=>(s.block k (Zaa A) (by omega) (by omega) (by omega) (Zj fun U V e'=>by rw[A] at e';simp only[Option.some.injEq,Obj.cells.injEq] at e';exact absurd e'.2.1 (by decide))).trans A⟩)
 have u:=Zz (Zq r (Zq W n));have G:=Zz I;have ae:∀(fn:Fn) (first cap:Array Value) (w:World),(Instr.makeFunc fn first cap).run prog w= .ok (.func fn first cap) w:=fun _ _ _ _=>rfl;unfold Jl at m;unfold Bw at m;unfold Bw;clear h hw K hn hs O hM N L W r n B dk f3 f4 I X Z
 go_enter func35,ntmps35
 go_upto_region 3 with fail
 go_upto_region 4 with fail
 rw[<-u.o.1,<-u.o.2.1]
 go_cut [5,6] from 12 to 24 (fun lv ev wc=>∃lb,lv= .pointer (some ⟨lb,0,none⟩)/\ev= .nilIface/\OpR w wc P R D bd bn lb d.synced)
 case first =>
  go_region_with (go_at_call 79;first
   | (refine (m.o l.drew _ _ ((Zk _ _).drew)).mono ?_;rintro _ w3 ⟨rfl,q1,s,F,Q,T⟩;have g:=Zz (Zq q1 (Zq s (Zq Q F)));clear q1 s F Q T)
   | (refine (m.o _ _ _ (((Zk _ _).alloc (Zx _) _).drew)).mono ?_;rintro _ w3 ⟨rfl,q1,s,F,Q,T⟩;have E:=T l.heap.size _ u.o.2.2.size (heap_alloc_new l _);have S:∀o,w3.frozen? ⟨l.heap.size,o,none⟩=false:=(fun o=>by simp[World.frozen?,E]);have e0:=Zad E 0;have e1:=Zad E 1;have e2:=Zad E 2;have e3:=Zad E 3;have g0:=S 0;have g1:=S 1;have g2:=S 2;have g3:=S 3;have g:=Zz (Zq q1 (Zq s (Zq Q (Zq E F))));clear q1 s F Q T E S))
  all_goals go_wp2_with fail
  all_goals go_meet
  all_goals first
   | exact⟨_,rfl,rfl,OpR.new g.o.2.2.1 g.o.1 g.o.2.1 g.o.2.2.2⟩
   | exact⟨_,rfl,rfl,OpR.old g.o.2.2.1 g.o.1 g.o.2.1 g.o.2.2.2.1 u.o.2.2.size g.o.2.2.2.2 (by have:=G.o;have:=u.o.2.2.size;omega)⟩
 case rest =>
  obtain⟨lb,rfl,rfl,b⟩:=hcut;have f:=b.lg;unfold Bw at f;have e0:=Zad f 0;have e1:=Zad f 1;have e2:=Zad f 2;have e3:=Zad f 3;have z0:=GJ b.p (j:=0) rfl;have z1:=GJ b.p (j:=1) rfl;have z2:=GJ b.p (j:=2) rfl;have z3:=GJ b.p (j:=3) rfl;have g0:wc.frozen? ⟨P,0,none⟩=false:=by simp[World.frozen?,b.p]
  have g1:wc.frozen? ⟨P,1,none⟩=false:=by simp[World.frozen?,b.p]
  have g2:wc.frozen? ⟨P,2,none⟩=false:=by simp[World.frozen?,b.p]
  have g3:wc.frozen? ⟨P,3,none⟩=false:=by simp[World.frozen?,b.p]
  have H:=Zz b;clear b f;go_wp2_with fail
  go_ret2
  have hp:=H.o.p;have ho:=Ax.Iq wc P (Bw D) (.int .i64 0) (.int .i64 0) .nilIface
  have e:((((wc.setCell ⟨P,0,none⟩ (Bw D)).setCell ⟨P,1,none⟩ (.int .i64 0)).setCell ⟨P,2,none⟩ (.int .i64 0)).setCell ⟨P,3,none⟩ .nilIface).heap[P]? =some (.cells ((((Tryz.zeroCells165.setIfInBounds 0 (Bw D)).setIfInBounds 1 (.int .i64 0)).setIfInBounds 2 (.int .i64 0)).setIfInBounds 3 .nilIface) 165 (0,0)):=by
   rw[Zab (Zab (Zab (Zab hp _) _) _) _]
  have Y:∀o,((((wc.setCell ⟨P,0,none⟩ (Bw D)).setCell ⟨P,1,none⟩ (.int .i64 0)).setCell ⟨P,2,none⟩ (.int .i64 0)).setCell ⟨P,3,none⟩ .nilIface).frozen? ⟨P,o,none⟩=false:=fun o=>by simp only[World.frozen?,e];simp
  have q:=Yy;refine⟨P,rfl,Nat.le_of_eq u.o.2.1.symm,Zaa e,⟨?_,?_,?_,?_,Y⟩,fun j v hj=> ?_,ho.fit hp (by decide) H.o.dk,H.o.df.Jr ho (Nat.le_of_eq u.o.2.1.symm),(World.cell?_of_block (a:=⟨D,2,none⟩) (ho.block D (World.block_lt_of_cell? _ _ H.o.nil) (by have:=G.o;have:=u.o.2.1;omega))).trans H.o.nil⟩
  ·exact Zd4 e (by rw[Array.getElem?_setIfInBounds_ne (by decide),Array.getElem?_setIfInBounds_ne (by decide),Array.getElem?_setIfInBounds_ne (by decide),Array.getElem?_setIfInBounds_self_of_lt (by rw[q];decide)])
  ·exact Zd4 e (by rw[Array.getElem?_setIfInBounds_ne (by decide),Array.getElem?_setIfInBounds_ne (by decide),Array.getElem?_setIfInBounds_self_of_lt (by simp[q])];rfl)
  ·exact Zd4 e (by rw[Array.getElem?_setIfInBounds_ne (by decide),Array.getElem?_setIfInBounds_self_of_lt (by simp[q])];rfl)
  ·exact Zd4 e (by rw[Array.getElem?_setIfInBounds_self_of_lt (by simp[q])];rfl)
  ·refine Zd4 e ?_
   rw[Array.getElem?_setIfInBounds_ne (by omega),Array.getElem?_setIfInBounds_ne (by omega),Array.getElem?_setIfInBounds_ne (by omega),Array.getElem?_setIfInBounds_ne (by omega),Ry];rw[List.getElem?_toArray,List.getElem?_append_right (by simp)];simpa using hj
open Go.RowKit
open Go.Maps (Agree agree_start agree_step agree_end)
attribute [local go_sem ↓] Go.wp_at_zero Go.wp_at_succ
theorem Le {key:Value}{b:Lit}(h:keyOf prog 9 key=some b):∃x,key= .string x:=by
 have a:=underlying9
 cases key<;>simp[keyOf,a,mapKey] at h
 exact⟨_,rfl⟩
theorem Xd (h:Ep v=some y):∃c:Option Addr,v= .pointer c:=by
 unfold Ep at h
 split at h
 ·exact⟨_,rfl⟩
 ·exact⟨_,rfl⟩
 ·cases h
theorem AB.copied {j a:Nat}{f:BG}{D:DataW Unit}(h:AB w j f D)(c:w'.ownsMap prog 9 Ep a 3 D)(m:∀k s,Zde w k s->w'.heap[k]? =w.heap[k]?):AB w' a f D :=
 ⟨c,h.size,h.has,fun i s hi e=>by obtain⟨b,l,g⟩:=h.at_ i s hi e;exact⟨b,l,(m b _ g).trans g⟩⟩
theorem Ax.EY {row:Option Nat}(h:w.grownBy w' row)(b:∀j,row=some j->w.heap.size<=j):Ax w w' D :=
 ⟨h.os,h.tape,h.output,h.size,fun k a _=>h.block k a (fun e=>by have:=b k e.symm;omega)⟩
theorem Ax.Qf {c:World}{row:Option Nat}(a:Ax w c D)(h:c.grownBy w' row)(g:∀j,row=some j->w.heap.size<=j):Ax w w' D :=
 ⟨h.os.trans a.os,h.tape.trans a.tape,h.output.trans a.output,Zv a.size h.size,fun k b f=>(h.block k (Zy b a.size) (fun e=>by have:=g k e.symm;omega)).trans (a.block k b f)⟩
theorem Xr (w:World)(D bd:Nat)(nv pv:Value)(P f0:Int)(R:Bool)(f:BG)(p:DataW Unit)(U:w.heap[D]? =some (.cells #[.map (some bd),nv,pv, .int .i64 P, .int .i64 f0, .bool R] 92 (0,0)))(hf:AB w bd f p) :
  Calls prog 33 #[.pointer (some ⟨D,0,none⟩)] w fun x w'=>x= .returned (.tuple #[])/\∃r,w.heap.size<=r/\r<w'.heap.size/\CF w' D bd r (.slice none 0 0) P f0 false/\AB w' bd f p/\AB w' r f p/\Ax w w' D:=by
 have bh:=@run_makeMap prog;have S:=Zaa U;have aj:=hf.own.lt
 have H:bd≠D:=fun e=>by
  obtain⟨es,c,e3,_⟩:=hf.own;rw[e,U] at e3;cases e3
 obtain⟨nb,A⟩:∃nb,nb=w.heap.size:=⟨_,rfl⟩;obtain⟨O,i⟩:∃O,O=(w.alloc (.map #[] 0)).setCell ⟨D,1,none⟩ (.map (some nb)):=⟨_,rfl⟩;have T:Below w.heap.size w (w.alloc (.map #[] 0)):=(Zk _ _).alloc (Zx _) _;have u:=(T.block D S).trans U;have I:CF O D bd nb pv P f0 R:=by rw[i];exact⟨by rw[Zab u];rfl⟩
 have n:O.ownsMap prog 9 Ep bd 3 p:=by rw[i];exact (hf.own.alloc _).setCell H _
 have m:O.ownsMap prog 9 Ep nb 0 (.map []:DataW Unit):=by rw[i,A];exact (World.ownsMap_made _ _ _ _).setCell (by show w.heap.size≠D;omega) _
 have X:Ax w O D:=by
  have h0:=Ax.EY (D:=D) (World.grownBy_alloc w (.map #[] 0) none) (fun j h=>by cases h);rw[i];exact h0.set 1 _
 have C:O.heap.size=nb+1:=by rw[i,A];simp
 have d1:(w.alloc (.map #[] 0)).cell? ⟨D,1,none⟩=some nv:=by unfold World.cell?;rw[u];rfl
 have g1:(w.alloc (.map #[] 0)).frozen? ⟨D,1,none⟩=false:=by simp[World.frozen?,u]
 have bf:D<nb:=by omega
 have aw:bd<nb:=by omega
 have av:=Ru f;have bj:=hf.size
 have W:∀k s,Zde w k s->k≠D:=fun k s e y=>by
  unfold Zde at e;rw[y,U] at e;simp only[Option.some.injEq,Obj.cells.injEq] at e;exact absurd e.2.1 (by decide)
 have q:=Zz (Zq i (Zq A (Zq hf (Zq C (Zq m X)))));have HN:=Zz W;clear W U hf aj T u i A X S
 go_enter func33,ntmps33
 go_upto_region 1 with fail
 rw[<-q.o.2.1,<-q.o.1];have e0:=I.cells.1.1.1.1.1;clear d1 g1;go_wp2_with (at_range;refine wpList_range_own _ rfl _ 89 rfl 9 144 CK underlying89 Ep bd 3 p rfl n ?_;intro w0 F z au)
 go_frame
 have HA:=Zz (show CF w0 D bd nb pv P f0 R/\Ax w w0 D/\w0.ownsMap prog 9 Ep nb 0 (.map []:DataW Unit) from⟨I.at_ (z.block D (by omega) (by simp)),q.o.2.2.2.2.2.Qf z (fun j h=>by cases h),q.o.2.2.2.2.1.kept z (by simp)⟩);rw[C] at F au ⊢;clear e0 I n m z C
 go_loopw [2,3] (fun _ _ wr=>∃(left:Lit->Bool) (cnt:Nat) (b:DataW Unit),wr.ranges prog 9 Ep bd (nb+1) 3 p left cnt/\cnt<=Maps.size p /\
   wr.ownsMap prog 9 Ep nb (Maps.size p - cnt) b/\Agree b p left/\CF wr D bd nb pv P f0 R/\Ax w wr D)
  (fun _ _ wr=>wr.rangeLeft bd (nb+1))
 case atStart =>
  exact⟨_,_, .map [],F,Zx _,HA.o.2.2.mono (Nat.zero_le _),agree_start p,HA.o.1,HA.o.2.1⟩
 case round =>
  obtain⟨left,cnt,b,N,ay,g,hA,a,B⟩:=hrel;have HO:=Zz (Zq a B);have e1:=a.cells.1.1.1.1.2;have e2:=a.cells.1.1.1.2;have e5:=a.cells.2;have g2:=a.AE 2;have g5:=a.AE 5;clear a B;go_wp2_with (at_next;refine wpList_next_ranges _ rfl _ rfl 9 CK Ep Value.string Value.pointer (fun key kl h=>Le h) (fun v y h=>Xd h) bd (nb+1) 3 _ _ _ rfl N ?_ ?_)
  ·intro al ar
   go_wp2_with fail
   go_end0
   subst al;obtain⟨a,B⟩:=HO.o;have e:=agree_end hA ar (g.canon CK) (q.o.2.2.1.own.canon CK);subst e;have Y:Ax w ((wr.setCell ⟨D,2,none⟩ (.slice none 0 0)).setCell ⟨D,5,none⟩ (.bool false)) D:=(B.set 2 _).set 5 _;have ae:∀k s,Zde w k s->((wr.setCell ⟨D,2,none⟩ (.slice none 0 0)).setCell ⟨D,5,none⟩ (.bool false)).heap[k]? =w.heap[k]? :=fun k s e2=>Y.block k (Zaa e2) (HN.o k s e2);refine⟨rfl,nb,Nat.le_of_eq q.o.2.1.symm,?_,(a.Bt (.slice none 0 0)).WR false,?_,?_,Y⟩
   ·have:=g.lt
    simpa using this
   ·exact q.o.2.2.1.copied ((N.owns.setCell H _).setCell H _) ae
   ·refine q.o.2.2.1.copied ((((by simpa using g:wr.ownsMap prog 9 Ep nb (Maps.size b) b).mono (by omega)).setCell (by show nb≠D;omega) _).setCell (by show nb≠D;omega) _) ae
  ·intro x c kl yd yp w2 Q E b9 hv ag Z V J C az
   have L:=g.kept J (by simp);have l:CF w2 D bd nb pv P f0 R:=HO.o.1.at_ (J.block D (Zaa HO.o.1.Au) (by simp;omega));have ax:=l.cells.1.1.1.1.2;clear e1 e2 e5 g2 g5;go_wp2_with (at_mapUpdate;refine wpList_mapUpdate_own _ rfl _ _ _ 89 rfl 9 144 CK underlying89 Ep nb _ _ rfl L (by unfold maxLen;omega) _ _ kl rfl rfl E yd yp hv ?_;intro w3 M K;go_frame)
   have G:=Z.kept K (fun e=>by have:=Option.some.inj e;omega) (fun e=>by have:=Option.some.inj e;omega)
   go_roundw
   case rel =>
    refine⟨_,Q,_,G,by omega,M.mono (by omega),agree_step hA g.isMap (CK.key E) ag,l.at_ (K.block D (Zaa l.Au) (by simp;omega)),(HO.o.2.Qf J (fun j h=>by have:=q.o.2.1;cases h;omega)).Qf K (fun j h=>by have:=q.o.2.1;cases h;omega)⟩
   case measure=>rw[G.left_eq,N.left_eq];exact V
open Go.RowKit
attribute [local go_sem ↓] Go.wp_at_zero Go.wp_at_succ
structure Rk (w:World)(hb D bd bn:Nat):Prop where
 host:Bm w hb D (.pointer none)
 dk:CF w D bd bn (.slice none 0 0) (-1) (-1) false
 fd:∃Dd,AB w bd Di Dd
 fn:∃Dn,AB w bn Di Dn
 ne:bd≠bn
theorem OP (w:World):Calls prog 11 #[] w fun x w'=>∃e D bd bn,x= .returned (.pointer (some ⟨e,0,none⟩))/\Rk w' e D bd bn/\(w.heap.size<=e/\w.heap.size<=D/\w.heap.size<=bd/\w.heap.size<=bn)/\e≠D/\e≠bd/\e≠bn/\Below w.heap.size w w':=by
 have C:=@run_makeMap prog;obtain⟨m,hm⟩:∃m,m=w.heap.size:=⟨_,rfl⟩;obtain⟨c,a⟩:∃c,c=((w.alloc (.map #[] 0)).alloc (.cells #[.map (some m), .map none, .slice none 0 0, .int .i64 (-1), .int .i64 (-1), .bool false] 92)).alloc (.cells #[.pointer (some ⟨m+1,0,none⟩), .pointer none] 95):=⟨_,rfl⟩;have g:Below w.heap.size w c:=by rw[a];exact (((Zk _ _).alloc (Zx _) _).alloc (by simp) _).alloc (by simp;omega) _
 have s:c.heap[m+1]? =some (.cells #[.map (some m), .map none, .slice none 0 0, .int .i64 (-1), .int .i64 (-1), .bool false] 92 (0,0)):=by
  rw[a,Zao _ _ _ (by simp;omega)];exact Zbk _ _ _ _ (by simp;omega)
 have h:c.heap[m+1+1]? =some (.cells #[.pointer (some ⟨m+1,0,none⟩), .pointer none] 95 (0,0)):=by
  rw[a];exact Zbk _ _ _ _ (by simp;omega)
 have hf:AB c m Di (.map []):=by
  rw[a,hm];have A:=SL w;have e:Below (w.alloc (.map #[] 0)).heap.size (w.alloc (.map #[] 0)) c:=by rw[a,hm];exact ((Zk _ _).alloc (Zx _) _).alloc (by simp) _
  have:=A.below e;rw[a,hm] at this;exact this
 have p:=Zz (Xr c (m+1) m _ _ _ _ _ Di _ s hf);have n:=Zz (Zq a (Zq hm (Zq g h)));have c0:c.cell? ⟨m+1+1,0,none⟩=some (.pointer (some ⟨m+1,0,none⟩)):=by unfold World.cell?;rw[h];rfl
 have q:=Zaa h;clear hm a g s h hf
 go_enter func11,ntmps11
 go_upto_region 2 with fail
 rw[<-n.o.2.1,<-n.o.1];go_wp2_with (go_at_call 33;refine p.o.mono ?_;rintro _ w4 ⟨rfl,bn,q1,r,i,j,l,b⟩;have z:=Zz (Zq q1 (Zq r (Zq i (Zq j (Zq l b)))));clear q1 r i j l b)
 go_ret
 obtain⟨q1,r,i,j,l,b⟩:=z.o;obtain⟨E,F,f,B⟩:=n.o;refine⟨m+1+1,m+1,m,bn,rfl,⟨⟨(b.block _ q (by omega)).trans B⟩,i,⟨_,j⟩,⟨_,l⟩,by omega⟩,⟨by omega,by omega,by omega,by omega⟩,by omega,by omega,by omega,?_⟩;exact⟨b.os.trans f.os,b.tape.trans f.tape,b.output.trans f.output,Zv f.size b.size,fun k u=>(b.block k (Zy u f.size) (by omega)).trans (f.block k u)⟩
structure HF (w w':World)(hb D bd bn:Nat):Prop where
 os:w'.os=w.os
 tape:w'.tape=w.tape
 output:w'.output=w.output
 size:w.heap.size<=w'.heap.size
 block:∀k,k<w.heap.size->k≠hb->k≠D->k≠bd->k≠bn->w'.heap[k]? =w.heap[k]?
structure OpnR (w w':World)(fb hb P D bd bn:Nat):Prop where
 pw:w.heap.size<=P
 pl:P<w'.heap.size
 log:Bp w' P D ⟨0,0,0⟩
 cells:∀j v,GI[j]? =some v->w'.cell? ⟨P,4+j,none⟩=some v
 dk:∃R,Av w' R D bd bn (Ay.synced ⟨Di,Di,[],-1,-1,false⟩)
 nil:w'.cell? ⟨D,2,none⟩=some (.slice none 0 0)
 host:Bm w' hb D (.pointer none)
 UZ:w'.heap[fb]? =some (.cells #[.int .i64 (-1), .int .i64 (-1), .int .i64 0, .int .i64 0] 35 (0,0))
 hf:HF w w' hb D bd bn
def IG:Ay:=⟨Di,Di,[],-1,-1,false⟩
theorem GG:IG.synced=⟨Di,Di,[],-2,-2,false⟩:=by
 simp[Ay.synced,IG,Ay.Bx,Ay.wrote,wI]
theorem Xx {N:Nat}(a:2000000<=N):BD ⟨0,0,0⟩ (Ay.calm IG.synced) N Za1:=by
 rw[GG];exact⟨rfl,rfl,rfl,rfl,rfl,rfl,rfl,fun i s h=>(by cases h),fun i s h=>(by cases h),a,[], .nil _,Oh.symm,Oh.symm⟩
theorem Qh (w:World)(f D bd bn N:Nat)(h:Rk w f D bd bn)(he:Az w)(bj:Za4 w)(ht:AL w)(az:4<f/\4<D/\4<bd/\4<bn)(ar:f≠D/\f≠bd/\f≠bn)(hN:2000000<=N) :
  Calls prog 12 #[.pointer (some ⟨f,0,none⟩),Zbl (-1) (-1) 0 0] w fun x w'=>x= .returned (.int .i64 0)/\∃P B,Bd w' f P B B D bd bn none N Za1/\w.heap.size<=P/\w.heap.size<=B/\HF w w' f D bd bn:=by
 obtain⟨fb,ae⟩:∃fb,fb=w.heap.size:=⟨_,rfl⟩;obtain⟨u,Q⟩:∃u,u=w.alloc (.cells #[.int .i64 (-1), .int .i64 (-1), .int .i64 0, .int .i64 0] 35):=⟨_,rfl⟩;have n:Below w.heap.size w u:=by rw[Q];exact (Zk _ _).alloc (Zx _) _
 have A:u.heap[fb]? =some (.cells #[.int .i64 (-1), .int .i64 (-1), .int .i64 0, .int .i64 0] 35 (0,0)):=by rw[Q,ae];exact heap_alloc_new w _
 have aj:=Zaa h.host.Au;have X:=Zaa h.dk.Au;obtain⟨Dd,K⟩:=h.fd;obtain⟨Dn,L⟩:=h.fn;have ay:=K.lt;have bh:=L.lt;have ax:0<w.heap.size:=World.block_lt_of_cell? _ _ he;have M:=h.host.at_ (n.block f aj);have Y:=h.dk.at_ (n.block D X)
 have au:∀k s,Zde u k s->k≠D:=fun k s e y=>by
  unfold Zde at e;rw[y,Y.Au] at e;simp only[Option.some.injEq,Obj.cells.injEq] at e;exact absurd e.2.1 (by decide)
 have al:bd≠D/\bn≠D:=⟨fun e=>(by
  obtain⟨es,c,e3,_⟩:=K.own;rw[e,h.dk.Au] at e3;cases e3),fun e=>(by
  obtain⟨es,c,e3,_⟩:=L.own;rw[e,h.dk.Au] at e3;cases e3)⟩
 have U:=Zz (show Calls prog 34 #[.pointer (some ⟨f,0,none⟩),Zbl (-1) (-1) 0 0] u fun x w'=>x= .returned (.tuple #[])/\Bm w' f D (.pointer none)/\Av w' u.heap.size D bd bn IG/\Ax u w' D from by
  refine (FY u f D bd bn _ _ _ _ false (-1) (-1) 0 0 M Y).mono ?_;rintro x w' ⟨rfl,q1,m⟩;refine⟨rfl,M.at_ (m.block f (by have:=n.size;omega) ar.1),⟨m.size,⟨none,0,q1,World.ownsRow_nil _ _ _ _⟩,⟨Dd,(K.below n).Et (m.block bd (by have:=n.size;omega) al.1) (fun k s e=>m.block k (Zaa e) (au k s e))⟩,⟨Dn,(L.below n).Et (m.block bn (by have:=n.size;omega) al.2) (fun k s e=>m.block k (Zaa e) (au k s e))⟩,h.ne,Nat.zero_le _,fun o r=>by cases r⟩,m⟩)
 have HR:=Zz (Zq Q (Zq ae (Zq n A)));have HL:=Zz (Zq aj (Zq X (Zq ay (Zq bh ax))));have z:=Zz (Zq he (Zq bj (Zq ht (Zq az ar))));have c0:u.cell? ⟨f,0,none⟩=some (.pointer (some ⟨D,0,none⟩)):=M.cells.1;have z0:u.cell? ⟨fb,0,none⟩=some (.int .i64 (-1)):=by unfold World.cell?;rw[A];rfl
 have z1:u.cell? ⟨fb,1,none⟩=some (.int .i64 (-1)):=by unfold World.cell?;rw[A];rfl
 have z2:u.cell? ⟨fb,2,none⟩=some (.int .i64 0):=by unfold World.cell?;rw[A];rfl
 have z3:u.cell? ⟨fb,3,none⟩=some (.int .i64 0):=by unfold World.cell?;rw[A];rfl
 unfold Zbl at U ⊢;clear h he bj ht az ar ae Q n A aj X K L ay bh ax M Y au al
 go_enter func12,ntmps12
 go_upto_region 1 with fail
 rw[<-HR.o.2.1,<-HR.o.1]
 go_upto_region 2 with (go_at_call 34;refine U.o.mono ?_;rintro _ w2 ⟨rfl,q1,m,V⟩;have H2:=Zz (Zq q1 (Zq m V));clear q1 m V)
 have av:=Zz (show Calls prog 35 #[Bw D] w2 fun x w'=>∃P,x= .returned (.tuple #[.pointer (some ⟨P,0,none⟩), .nilIface])/\OpnR w w' fb f P D bd bn from by
  obtain⟨g1,g2,g3,g4⟩:=z.o.2.2.2.1;obtain⟨l1,l2,l3,l4,l5⟩:=HL.o;obtain⟨r1,r2,S,r4⟩:=HR.o;obtain⟨a1,a2,a3⟩:=H2.o;have hs:=S.size
  have bo:Za4 w2:=fun i hi=>by
   have hz:=cell_later S (z.o.2.1 i hi);exact (World.cell?_of_block (a:=⟨1,i,none⟩) (a3.block 1 (World.block_lt_of_cell? _ _ hz) (by omega))).trans hz
  refine (PU w2 u.heap.size D bd bn 0 IG a2 (by simp[Ay.Bx,IG]) (by rw[GG]) (fun i _=>by rw[GG];rfl) (fun i s h=>by cases h) (fun o h=>by cases h) (by omega) bo ⟨g2,g3,g4,by omega⟩).mono ?_;rintro x w' ⟨P,rfl,b1,b2,b3,b4,b5,W,b7⟩;have e2:=a3.size;have C:w2.heap[fb]? =some (.cells #[.int .i64 (-1), .int .i64 (-1), .int .i64 0, .int .i64 0] 35 (0,0)):=(a3.block fb (Zaa r4) (by omega)).trans r4
  have stay:∀k,k<w.heap.size->k≠D->k≠bd->k≠bn->w'.heap[k]? =w.heap[k]? :=fun k hk k1 k2 k3=>by
   rw[W.block k (by omega) k1 k2 k3 (Zu (by omega)),a3.block k (by omega) k1,S.block k hk]
  refine⟨P,rfl,by omega,b2,b3,b4,⟨_,b5⟩,b7,a1.at_ (W.block f (by omega) z.o.2.2.2.2.1 z.o.2.2.2.2.2.1 z.o.2.2.2.2.2.2 (Zu (by omega))),(W.block fb (Zaa C) (by omega) (by omega) (by omega) (Zj fun cm cq e'=>by rw[C] at e';simp only[Option.some.injEq,Obj.cells.injEq] at e';exact absurd e'.2.1 (by decide))).trans C,⟨W.os.trans (a3.os.trans S.os),W.tape.trans (a3.tape.trans S.tape),W.output.trans (a3.output.trans S.output),by have:=W.size;omega,fun k hk _ k1 k2 k3=>stay k hk k1 k2 k3⟩⟩)
 obtain⟨a0,_⟩:=H2.o.1.cells;have a1:w2.cell? ⟨f,0,none⟩=some (.pointer (some ⟨D,0,none⟩)):=a0;unfold Bw at av;clear a0 z0 z1 z2 z3 c0
 go_upto_region 3 with (go_at_call 35;refine av.o.mono ?_;rintro _ I ⟨P,rfl,b⟩;have HP:=Zz b;clear b)
 have E:=HP.o.host;have b1:=E.cells.2;have f1:I.frozen? ⟨f,1,none⟩=false:=E.AE 1;clear a1
 go_upto_region 4 with fail
 obtain⟨w4,H⟩:∃w4,w4=I.setCell ⟨f,1,none⟩ (.pointer (some ⟨P,0,none⟩)):=⟨_,rfl⟩;rw[<-H];have r:Ax I w4 f:=by rw[H];exact (Ax.refl I f).set 1 _
 have F:Bm w4 f D (.pointer (some ⟨P,0,none⟩)):=by rw[H];exact E.set _
 have bp:=Zz (Zq H (Zq r F));obtain⟨g1,g2,g3,g4⟩:=z.o.2.2.2.1;obtain⟨n1,n2,n3⟩:=z.o.2.2.2.2;obtain⟨l1,l2,l3,l4,l5⟩:=HL.o;obtain⟨r1,r2,S,r4⟩:=HR.o;have ck:=S.size;have b:=HP.o;have J:=b.pw;have O:=b.hf.size;have G:=r.size;have p:=b.pl;have g:∀o v,I.cell? ⟨P,o,none⟩=some v->w4.cell? ⟨P,o,none⟩=some v:=fun o v e=>(World.cell?_of_block (a:=⟨P,o,none⟩) (r.block P p (by omega))).trans e
 have ag:∀o,w4.frozen? ⟨P,o,none⟩=false:=fun o=>(World.frozen?_of_block (a:=⟨P,o,none⟩) (r.block P p (by omega))).trans (b.log.fz o)
 have hold:∀k,k<w.heap.size->k≠f->k≠D->k≠bd->k≠bn->w4.heap[k]? =w.heap[k]? :=fun k hk k0 k1 k2 k3=>(r.block k (by omega) k0).trans (b.hf.block k hk k0 k1 k2 k3)
 have b9:1<w.heap.size:=World.block_lt_of_cell? _ _ (z.o.2.1 0 (by omega));have bf:2<w.heap.size:=World.block_lt_of_cell? _ _ (z.o.2.2.1 0 (by omega))
 have aw:AK w4 P I.heap.size I.heap.size D bd bn none ⟨0,0,0⟩ IG.synced Za1:=by
  refine⟨Vx (fun j v hj=>g _ _ (b.cells j v hj)) ag p G,⟨g _ _ b.log.c0,g _ _ b.log.c1,g _ _ b.log.c2,g _ _ b.log.c3,ag⟩,?_,fun i hi=> ?_,?_,⟨⟨by omega,by omega,by omega,p,by omega,by omega,by omega,by omega⟩,p,by omega,by omega,by omega⟩⟩
  ·obtain⟨R0,br⟩:=b.dk
   refine Av.raise (R:=R0) (r.fit E.Au (by decide) br) (by rw[GG]) ?_ G;exact (World.cell?_of_block (a:=⟨D,2,none⟩) (r.block D (by omega) (by omega))).trans b.nil
  ·exact (World.cell?_of_block (a:=⟨1,i,none⟩) (hold 1 b9 (by omega) (by omega) (by omega) (by omega))).trans (z.o.2.1 i hi)
  ·exact z.o.2.2.1.at_ (hold 2 bf (by omega) (by omega) (by omega) (by omega))
 have q:w4.heap[fb]? =some (.cells #[.int .i64 (-1), .int .i64 (-1), .int .i64 0, .int .i64 0] 35 (0,0)):=(r.block fb (Zaa b.UZ) (by omega)).trans b.UZ;have Z:Az w4:=(World.cell?_of_block (a:=⟨0,0,none⟩) (hold 0 l5 (by omega) (by omega) (by omega) (by omega))).trans z.o.1
 have T:=Zz (show Calls prog 36 #[.pointer (some ⟨f,0,none⟩),Zbl (-1) (-1) 0 0] w4 fun x w'=>x= .returned (.tuple #[])/\AK w' P I.heap.size I.heap.size D bd bn none ⟨0,0,0⟩ IG.synced.calm Za1/\Ax w4 w' D/\Bm w' f D (.pointer (some ⟨P,0,none⟩))/\Az w' from by
  refine (Zc4 w4 f P _ _ D bd bn none _ _ _ _ _ _ 0 0 aw (by rw[GG]) F).mono ?_;rintro x w' ⟨rfl,q1,m⟩;exact⟨rfl,q1,m,F.at_ (m.block f (Zaa F.Au) n1),(World.cell?_of_block (a:=⟨0,0,none⟩) (m.block 0 (World.block_lt_of_cell? _ _ Z) (by omega))).trans Z⟩)
 have y0:w4.cell? ⟨fb,0,none⟩=some (.int .i64 (-1)):=by unfold World.cell?;rw[q];rfl
 have y1:w4.cell? ⟨fb,1,none⟩=some (.int .i64 (-1)):=by unfold World.cell?;rw[q];rfl
 have y2:w4.cell? ⟨fb,2,none⟩=some (.int .i64 0):=by unfold World.cell?;rw[q];rfl
 have y3:w4.cell? ⟨fb,3,none⟩=some (.int .i64 0):=by unfold World.cell?;rw[q];rfl
 have HK:=Zz (Zq hold (Zq G (Zq O (Zq J p))));unfold Zbl at T;clear E b1 f1 H r F g1 g2 g3 g4 n1 n2 n3 l1 l2 l3 l4 l5 r1 r2 S r4 ck b J O G p g ag hold b9 bf aw q Z
 go_wp2_with (first
  | (go_at_call 36;refine T.o.mono ?_;rintro _ w5 ⟨rfl,q1,m,V,q4⟩;have H5:=Zz (Zq q1 (Zq m (Zq V q4)));clear q1 m V q4)
  | (go_at_call 37;refine (Zch 0 _ H5.o.2.2.2).mono ?_;rintro _ w6 ⟨rfl,l⟩;have H6:=Zz l;clear l))
 go_ret
 obtain⟨hold,G,O,J,p⟩:=HK.o;obtain⟨q1,m,V,q4⟩:=H5.o;have l:=H6.o;have cr:=m.size
 have bw:HF w w6 f D bd bn:=by
  have r:=bp.o.2.1;have hf:=HP.o.hf;exact⟨l.os.trans (m.os.trans (r.os.trans hf.os)),l.tape.trans (m.tape.trans (r.tape.trans hf.tape)),l.output.trans (m.output.trans (r.output.trans hf.output)),by have:=l.size;omega,fun k hk k0 k1 k2 k3=>(l.block k (by omega)).trans ((m.block k (by omega) k1).trans (hold k hk k0 k1 k2 k3))⟩
 refine⟨rfl,P,I.heap.size,⟨⟨_,_,q1.below l,Xx hN⟩,V.at_ (l.block f (Zaa V.Au)),q4.Aj l,?_⟩,J,O,bw⟩;obtain⟨l1,l2,l3,l4,l5⟩:=HL.o;obtain⟨n1,n2,n3⟩:=z.o.2.2.2.2;exact⟨by omega,by omega,by omega,n1,n2,n3,z.o.2.2.2.1.1⟩
end Go.Proofs.YtgdcjccbdmcebaaGreatDoor
