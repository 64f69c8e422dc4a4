import Derived.Test.YtgdcjccbdmcebaaGreatDoorM19
set_option linter.unusedSimpArgs false
set_option linter.unusedVariables false
set_option maxHeartbeats 4000000
set_option maxRecDepth 100000
namespace Go.Proofs.YtgdcjccbdmcebaaGreatDoor
open Tryz
open Go.RowKit
attribute [local go_sem ↓] Go.wp_at_zero Go.wp_at_succ
def FT (w:World)(v:Nat)(x:AZ):Prop:=v<w.heap.size/\∀j u,(AY x)[j]? =some u->w.cell? ⟨v,j,none⟩=some u
theorem FT.below {w w':World}{v:Nat}{x:AZ}(h:FT w v x)(b:Below w.heap.size w w'):FT w' v x:=⟨Zy h.1 b.size,fun j u c=>(World.cell?_of_block (a:=⟨v,j,none⟩) (b.block v h.1)).trans (h.2 j u c)⟩
theorem Zcz (w:World)(r nd:Int):(w.alloc (.cells #[.int .u64 r, .int .i64 nd] 274)).cell? ⟨w.heap.size,0,none⟩=some (.int .u64 r)/\(w.alloc (.cells #[.int .u64 r, .int .i64 nd] 274)).cell? ⟨w.heap.size,1,none⟩=some (.int .i64 nd):=by
 have h:=heap_alloc_new w (.cells #[.int .u64 r, .int .i64 nd] 274);refine⟨?_,?_⟩<;>(unfold World.cell?;rw[h];rfl)
theorem QN (w:World)(P B n c first O:Nat)(a:Option Addr)(ys xs:List AZ)(x:AZ)(h:FV w P B a n c first ys xs)(K:FT w O x)(ar:O≠P)(dd:some O≠(Value.slice a n c).ownBlock)(dc:xs.length<=400) :
  Calls prog 191 #[.pointer (some ⟨P,8,none⟩), .slice (some ⟨O,0,none⟩) 1 1] w fun e w'=>e= .returned (.tuple #[])/\∃a' n' c' ag da,FV w' P B a' n' c' ag da (xs++[x])/\RF w w' P (Value.slice a n c).ownBlock 8 11/\∀k,(Value.slice a' n' c').ownBlock=some k->(Value.slice a n c).ownBlock=some k\/w.heap.size<=k:=by
 obtain⟨m,hm⟩:∃m,m=xs.length:=⟨_,rfl⟩;have db:=h.Bs;have hlen:=h.len;have C:=h.ring;have cq:m<=n:=by have:=C.Bs;omega
 by_cases hr:m<n
 ·obtain⟨g,cur,rfl,hg⟩:∃g cur,a=some ⟨g,0,none⟩/\w.heap[g]? =some (.cells cur 274 (0,0)):=by
   rcases h.row.2 with⟨h2,_⟩ | ⟨g,cap,cur,h2,hg,hh,_⟩
   ·simp only[Value.slice.injEq] at h2
    omega
   ·obtain⟨rfl,_,rfl⟩:a=some ⟨g,0,none⟩/\n=n/\c=cap:=by simpa using h2
    exact⟨g,cur,rfl,hh⟩
  have hf:first<n:=by
   rcases C.Ec with h1 | ⟨_,h2⟩
   ·omega
   ·subst h2;simp at hlen;omega
  have c0:=h.c0;have c1:=h.c1;have c2:=h.c2;have f2:=h.fz 10;rw[<-hm] at c2;have H:=Zz (Zq h (Zq K hm));have x0:=(K.2 0 _ rfl);have x1:=(K.2 1 _ rfl);have bf:decide ((n:Int)<((m+1:Nat):Int))=false:=decide_eq_false (by omega);have e3:wrap64 ((m:Int)+1)=((m+1:Nat):Int):=by unfold wrap64;omega
  clear h K C hlen hg hm
  go_enter func191,ntmps191
  go_wp2_with fail
  refine wp_loop_rounds 2 ?_;rw[rounds_succ];go_wp2_with fail
  obtain⟨w1,l⟩:∃w1,w1=w.alloc (.cells #[.int .u64 x.run, .int .i64 x.node] 274):=⟨_,rfl⟩
  try rw[<-l]
  (obtain⟨z0,z1⟩:=(show _/\_ from l▸Zcz w x.run x.node))
  have t:Below w.heap.size w w1:=by rw[l];exact (Zk _ _).alloc (Zx _) _
  have H1:=H.o.1.below t;have c0:=H1.c0;have c1:=H1.c1;have c2:=H1.c2;have f2:=H1.fz 10;rw[<-H.o.2.2] at c2;have s:(first+m) % n<n:=Nat.mod_lt _ (by omega);have e1:wrap64 ((first:Int)+(m:Int))=((first+m:Nat):Int):=by unfold wrap64;omega
  have e2:((first+m:Nat):Int).tmod (n:Int)=(((first+m) % n:Nat):Int):=rfl;have p:(first+m) % n<ys.length:=by rw[H1.len];exact s
  obtain⟨pos,i⟩:∃pos,pos=(first+m) % n:=⟨_,rfl⟩;have av:((first:Int)+(m:Int)) % (n:Int)=(pos:Int):=by rw[i];norm_cast
  have br:((pos:Nat):Int)<(n:Int):=by omega
  rw[<-i] at e2 s p;obtain⟨y,L⟩:∃y,ys[pos]? =some y:=⟨_,ZZ p⟩
  have d:∀j u,(AY y)[j]? =some u->w1.cell? ⟨g,pos * 2+j,none⟩=some u:=by
   intro j u M;have U:j<2:=by have:=(List.getElem?_eq_some_iff.1 M).1;rwa[Zbp] at this
   have cr:pos * 2+2<=n * 2:=by have:=Nat.mul_le_mul_right 2 (show pos+1<=n by omega);omega
   rw[H1.row.cellAt _ (by omega)]
   have e5:ys.flatMap AY=(ys.take pos).flatMap AY++(AY y++(ys.drop (pos+1)).flatMap AY):=by
    conv=>lhs;rw[<-List.take_append_drop pos ys,List.drop_eq_getElem_cons p]
    rw[List.flatMap_append,List.flatMap_cons];rw[ZZ p] at L;simp only[Option.some.injEq] at L;rw[L]
   rw[e5,List.getElem?_append_right (by rw[Zaq,List.length_take,Nat.min_eq_left (by omega)];omega),Zaq,List.length_take,Nat.min_eq_left (by omega),Nat.add_sub_cancel_left,List.getElem?_append_left (by rw[Zbp];exact U)];exact M
  have v:∀j,w1.frozen? ⟨g,pos * 2+j,none⟩=false:=fun j=>H1.row.frozenAt _;have t0:=d 0 _ rfl;have t1:=d 1 _ rfl;have t2:=v 0;have t3:=v 1
  try simp only[Nat.add_zero] at t0 t2
  have ck:g≠P:=by
   have:=(H1.row.lt g rfl).1;have:=H1.pb;omega
  have HH:=Zz (Zq H1 (Zq t i));clear H1 t l i d v L
  go_region
  all_goals
   go_wp2_with fail
   rw[rounds_succ];go_wp2_with fail
   go_end0
   obtain⟨q1,q2,q3⟩:=HH.o;have hm:=H.o.2.2;have hp:=q1.CX (by omega) x;rw[<-hm,<-q3] at hp
   try rw[Nat.mul_one] at hp
   refine⟨rfl,some ⟨g,0,none⟩,n,c,first,_,hp.1,(RF.Ae P _ 8 11 q2).trans hp.2 (fun k G=>Zu G),fun k G=>Zu G⟩
 ·have ax:m=n:=by omega
  obtain⟨N,hN⟩:∃N,N=max (n+1) (2 * n):=⟨_,rfl⟩;have ay:m+1<=N/\N<=1000:=by omega
  have ew:wrap64 (2 * (n:Int))=2 * (n:Int):=by unfold wrap64;omega
  have bf:decide ((n:Int)<((m+1:Nat):Int))=true:=decide_eq_true (by omega);have aw:decide ((n:Int)<(m:Int)+1)=true:=decide_eq_true (by omega);have e3:wrap64 ((m:Int)+1)=((m+1:Nat):Int):=by unfold wrap64;omega
  have c0:=h.c0;have c1:=h.c1;have c2:=h.c2;rw[<-hm] at c2;have V:=VP w N (by omega);obtain⟨nb,al⟩:∃nb,nb=w.heap.size:=⟨_,rfl⟩;obtain⟨w2,au⟩:∃w2,w2=w.alloc (.cells (madeCells (.agg #[.int .u64 0, .int .i64 0]:Value).cells (N * 2)) 274):=⟨_,rfl⟩;rw[<-al,<-au] at V;have az:Below w.heap.size w w2:=by rw[au];exact (Zk _ _).alloc (Zx _) _
  have cm:w2.heap[nb]? =some (.cells (madeCells (.agg #[.int .u64 0, .int .i64 0]:Value).cells (N * 2)) 274 (0,0)):=by rw[au,al];exact heap_alloc_new w _
  have H2:=h.below az;have bh:=Ke w2 P B n c first a ys xs H2
  rw[<-hm] at bh;have HL:=Zz bh;have b:=Zz (Zq az (Zq cm (Zq al (Zq h (Zq K (Zq hm (Zq ay (Zq ax H2))))))));have Z:=H2.c0;have ae:=b.o.2.2.2.1.c0;have bw:=hN;clear au az cm al h K hm hlen C bh hN H2 ax;by_cases hA:2 * n<=n+1
  ·have aj:2 * (n:Int)<=(m:Int)+1:=by have:=b.o.2.2.2.2.2.2.2.1;omega
   have ct:max ((m:Int)+1) (2 * (n:Int))=(m:Int)+1:=Int.max_eq_left aj;have eN:(N:Int)=(m:Int)+1:=by have:=b.o.2.2.2.2.2.2.2.1;omega
   rw[eN] at V;clear hA bw eN
   go_enter func191,ntmps191
   go_upto_region 3 with fail
   try rw[<-b.o.2.2.1]
   go_upto_region 4 with (go_at_call 211;refine HL.o.mono ?_;rintro e X ⟨a3,c3,rfl,I,A⟩;have b9:=NW ((A.block nb (Zaa b.o.2.1)).trans b.o.2.1) I b.o.2.2.2.2.2.1 (by have:=b.o.2.2.2.2.2.2.1;omega) (size_madeCells _ _);have q:=Zz (Zq A I);have c0:=cell_later A Z;clear A I)
   clear b9;have R:=Zz (b.o.2.2.2.1.grown (N:=N) (b.o.1.trans' q.o.1) (by have:=b.o.2.2.1;omega) ((q.o.1.block nb (Zaa b.o.2.1)).trans b.o.2.1) (by have:=b.o.2.2.2.2.2.1;have:=b.o.2.2.2.2.2.2.1;omega));have f:=b.o.2.2.2.2.1.below (b.o.1.trans' q.o.1);have z:∀o,(X.setCells nb 0 (xs.flatMap AY)).frozen? ⟨P,o,none⟩=false:=fun o=>(World.frozen?_of_block (a:=⟨P,o,none⟩) ((Zap nb P (by have:=b.o.2.2.1;have:=b.o.2.2.2.1.pb;have:=b.o.2.2.2.1.bs;omega) _ _ _).trans ((b.o.1.trans' q.o.1).block P (by have:=b.o.2.2.2.1.pb;have:=b.o.2.2.2.1.bs;omega)))).trans (b.o.2.2.2.1.fz o)
   have F:∀o,(X.setCells nb 0 (xs.flatMap AY)).cell? ⟨P,o,none⟩=w.cell? ⟨P,o,none⟩:=fun o=>World.cell?_of_block (a:=⟨P,o,none⟩) ((Zap nb P (by have:=b.o.2.2.1;have:=b.o.2.2.2.1.pb;have:=b.o.2.2.2.1.bs;omega) _ _ _).trans ((b.o.1.trans' q.o.1).block P (by have:=b.o.2.2.2.1.pb;have:=b.o.2.2.2.1.bs;omega)))
   have S:FT (((X.setCells nb 0 (xs.flatMap AY)).setCell ⟨P,8,none⟩ (.slice (some ⟨nb,0,none⟩) N N)).setCell ⟨P,9,none⟩ (.int .i64 0)) O x:=by
    refine⟨by simp only[World.setCell,Array.size_modify];rw[(Zbt X nb 0 _).1];exact f.1,fun j u M=> ?_⟩;have bj:O≠nb:=by have:=b.o.2.2.2.2.1.1;have:=b.o.2.2.1;omega
    refine (World.cell?_setCell_other _ _ _ _ (fun e=>ar ((Addr.mk.inj e).1.symm))).trans ((World.cell?_setCell_other _ _ _ _ (fun e=>ar ((Addr.mk.inj e).1.symm))).trans ?_);exact (World.cell?_of_block (a:=⟨O,j,none⟩) (Zap nb O bj _ _ _)).trans (f.2 j u M)
   have d0:=(F 8).trans ae;have d1:=(F 9).trans c1;have d2:=z 8;have d3:=z 9;have Q:=Zz S;clear f z F S c0 Z ae
   generalize bo:X.setCells nb 0 (xs.flatMap AY)=bp at *
   go_upto_region 5 with fail
   obtain⟨w4,J⟩:∃w4,w4=(bp.setCell ⟨P,8,none⟩ (.slice (some ⟨nb,0,none⟩) N N)).setCell ⟨P,9,none⟩ (.int .i64 0):=⟨_,rfl⟩
   try rw[<-J]
   have hq:=R.o;have f:=Q.o;rw[<-J] at hq f;obtain⟨f0,T⟩:∃f0:Nat,f0=0:=⟨_,rfl⟩;obtain⟨D,W⟩:∃D,D=xs++List.replicate (N - xs.length) (⟨0,0⟩:AZ):=⟨_,rfl⟩;have r:FV w4 P B (some ⟨nb,0,none⟩) N N f0 D xs:=by rw[T,W];exact hq.1
   have H4:=Zz (Zq r (Zq f b.o.2.2.2.2.2.1));have E:=Zz (Zq hq.2 (show w.heap.size<=nb by have:=b.o.2.2.1;omega));have cy:m<N:=by omega
   have cu:N<=1000:=ay.2;have c0:=r.c0;have c1:=r.c1;have c2:=r.c2;have f2:=r.fz 10;rw[<-b.o.2.2.2.2.2.1] at c2;have K:=f;have x0:=(K.2 0 _ rfl);have x1:=(K.2 1 _ rfl);have hf:f0<N:=by omega
   clear K hq r f d0 d1 d2 d3 W J T bo aj V bf aw hr cq R Q q HL;go_wp2_with fail
   refine wp_loop_rounds 2 ?_;rw[rounds_succ];go_wp2_with fail
   obtain⟨Y,l⟩:∃Y,Y=w4.alloc (.cells #[.int .u64 x.run, .int .i64 x.node] 274):=⟨_,rfl⟩
   try rw[<-l]
   (obtain⟨z0,z1⟩:=(show _/\_ from l▸Zcz w4 x.run x.node))
   have t:Below w4.heap.size w4 Y:=by rw[l];exact (Zk _ _).alloc (Zx _) _
   have H1:=H4.o.1.below t;have c0:=H1.c0;have c1:=H1.c1;have c2:=H1.c2;have f2:=H1.fz 10;rw[<-H4.o.2.2] at c2;have s:(f0+m) % N<N:=Nat.mod_lt _ (by omega);have e1:wrap64 ((f0:Int)+(m:Int))=((f0+m:Nat):Int):=by unfold wrap64;omega
   have e2:((f0+m:Nat):Int).tmod (N:Int)=(((f0+m) % N:Nat):Int):=rfl;have p:(f0+m) % N<D.length:=by rw[H1.len];exact s
   obtain⟨pos,i⟩:∃pos,pos=(f0+m) % N:=⟨_,rfl⟩;have av:((f0:Int)+(m:Int)) % (N:Int)=(pos:Int):=by rw[i];norm_cast
   have br:((pos:Nat):Int)<(N:Int):=by omega
   rw[<-i] at e2 s p;obtain⟨y,L⟩:∃y,D[pos]? =some y:=⟨_,ZZ p⟩
   have d:∀j u,(AY y)[j]? =some u->Y.cell? ⟨nb,pos * 2+j,none⟩=some u:=by
    intro j u M;have U:j<2:=by have:=(List.getElem?_eq_some_iff.1 M).1;rwa[Zbp] at this
    have cr:pos * 2+2<=N * 2:=by have:=Nat.mul_le_mul_right 2 (show pos+1<=N by omega);omega
    rw[H1.row.cellAt _ (by omega)]
    have e5:D.flatMap AY=(D.take pos).flatMap AY++(AY y++(D.drop (pos+1)).flatMap AY):=by
     conv=>lhs;rw[<-List.take_append_drop pos D,List.drop_eq_getElem_cons p]
     rw[List.flatMap_append,List.flatMap_cons];rw[ZZ p] at L;simp only[Option.some.injEq] at L;rw[L]
    rw[e5,List.getElem?_append_right (by rw[Zaq,List.length_take,Nat.min_eq_left (by omega)];omega),Zaq,List.length_take,Nat.min_eq_left (by omega),Nat.add_sub_cancel_left,List.getElem?_append_left (by rw[Zbp];exact U)];exact M
   have v:∀j,Y.frozen? ⟨nb,pos * 2+j,none⟩=false:=fun j=>H1.row.frozenAt _;have t0:=d 0 _ rfl;have t1:=d 1 _ rfl;have t2:=v 0;have t3:=v 1
   try simp only[Nat.add_zero] at t0 t2
   have ck:nb≠P:=by
    have:=(H1.row.lt nb rfl).1;have:=H1.pb;omega
   have HH:=Zz (Zq H1 (Zq t i));clear H1 t l i d v L
   go_region
   all_goals
    go_wp2_with fail
    rw[rounds_succ];go_wp2_with fail
    go_end0
    obtain⟨q1,q2,q3⟩:=HH.o;have hm:=H4.o.2.2;have hp:=q1.CX (by omega) x;rw[<-hm,<-q3] at hp
    try rw[Nat.mul_one] at hp
    refine⟨rfl,some ⟨nb,0,none⟩,N,N,f0,_,hp.1,(E.o.1.trans (RF.Ae P _ 8 11 q2) (fun k G=>Zu G)).trans hp.2 (fun k G=>Zj (by simp only[Option.some.injEq] at G;have:=E.o.2;omega)),fun k G=>Zj (by simp only[Value.ownBlock,Option.some.injEq] at G;have:=E.o.2;omega)⟩
  ·have aj:¬(2 * (n:Int)<=(m:Int)+1):=by have:=b.o.2.2.2.2.2.2.2.1;omega
   have ct:max ((m:Int)+1) (2 * (n:Int))=2 * (n:Int):=Int.max_eq_right (by omega);have eN:(N:Int)=2 * (n:Int):=by omega
   rw[eN] at V;clear hA bw eN
   go_enter func191,ntmps191
   go_upto_region 3 with fail
   try rw[<-b.o.2.2.1]
   go_upto_region 4 with (go_at_call 211;refine HL.o.mono ?_;rintro e X ⟨a3,c3,rfl,I,A⟩;have b9:=NW ((A.block nb (Zaa b.o.2.1)).trans b.o.2.1) I b.o.2.2.2.2.2.1 (by have:=b.o.2.2.2.2.2.2.1;omega) (size_madeCells _ _);have q:=Zz (Zq A I);have c0:=cell_later A Z;clear A I)
   clear b9;have R:=Zz (b.o.2.2.2.1.grown (N:=N) (b.o.1.trans' q.o.1) (by have:=b.o.2.2.1;omega) ((q.o.1.block nb (Zaa b.o.2.1)).trans b.o.2.1) (by have:=b.o.2.2.2.2.2.1;have:=b.o.2.2.2.2.2.2.1;omega));have f:=b.o.2.2.2.2.1.below (b.o.1.trans' q.o.1);have z:∀o,(X.setCells nb 0 (xs.flatMap AY)).frozen? ⟨P,o,none⟩=false:=fun o=>(World.frozen?_of_block (a:=⟨P,o,none⟩) ((Zap nb P (by have:=b.o.2.2.1;have:=b.o.2.2.2.1.pb;have:=b.o.2.2.2.1.bs;omega) _ _ _).trans ((b.o.1.trans' q.o.1).block P (by have:=b.o.2.2.2.1.pb;have:=b.o.2.2.2.1.bs;omega)))).trans (b.o.2.2.2.1.fz o)
   have F:∀o,(X.setCells nb 0 (xs.flatMap AY)).cell? ⟨P,o,none⟩=w.cell? ⟨P,o,none⟩:=fun o=>World.cell?_of_block (a:=⟨P,o,none⟩) ((Zap nb P (by have:=b.o.2.2.1;have:=b.o.2.2.2.1.pb;have:=b.o.2.2.2.1.bs;omega) _ _ _).trans ((b.o.1.trans' q.o.1).block P (by have:=b.o.2.2.2.1.pb;have:=b.o.2.2.2.1.bs;omega)))
   have S:FT (((X.setCells nb 0 (xs.flatMap AY)).setCell ⟨P,8,none⟩ (.slice (some ⟨nb,0,none⟩) N N)).setCell ⟨P,9,none⟩ (.int .i64 0)) O x:=by
    refine⟨by simp only[World.setCell,Array.size_modify];rw[(Zbt X nb 0 _).1];exact f.1,fun j u M=> ?_⟩;have bj:O≠nb:=by have:=b.o.2.2.2.2.1.1;have:=b.o.2.2.1;omega
    refine (World.cell?_setCell_other _ _ _ _ (fun e=>ar ((Addr.mk.inj e).1.symm))).trans ((World.cell?_setCell_other _ _ _ _ (fun e=>ar ((Addr.mk.inj e).1.symm))).trans ?_);exact (World.cell?_of_block (a:=⟨O,j,none⟩) (Zap nb O bj _ _ _)).trans (f.2 j u M)
   have d0:=(F 8).trans ae;have d1:=(F 9).trans c1;have d2:=z 8;have d3:=z 9;have Q:=Zz S;clear f z F S c0 Z ae
   generalize bo:X.setCells nb 0 (xs.flatMap AY)=bp at *
   go_upto_region 5 with fail
   obtain⟨w4,J⟩:∃w4,w4=(bp.setCell ⟨P,8,none⟩ (.slice (some ⟨nb,0,none⟩) N N)).setCell ⟨P,9,none⟩ (.int .i64 0):=⟨_,rfl⟩
   try rw[<-J]
   have hq:=R.o;have f:=Q.o;rw[<-J] at hq f;obtain⟨f0,T⟩:∃f0:Nat,f0=0:=⟨_,rfl⟩;obtain⟨D,W⟩:∃D,D=xs++List.replicate (N - xs.length) (⟨0,0⟩:AZ):=⟨_,rfl⟩;have r:FV w4 P B (some ⟨nb,0,none⟩) N N f0 D xs:=by rw[T,W];exact hq.1
   have H4:=Zz (Zq r (Zq f b.o.2.2.2.2.2.1));have E:=Zz (Zq hq.2 (show w.heap.size<=nb by have:=b.o.2.2.1;omega));have cy:m<N:=by omega
   have cu:N<=1000:=ay.2;have c0:=r.c0;have c1:=r.c1;have c2:=r.c2;have f2:=r.fz 10;rw[<-b.o.2.2.2.2.2.1] at c2;have K:=f;have x0:=(K.2 0 _ rfl);have x1:=(K.2 1 _ rfl);have hf:f0<N:=by omega
   clear K hq r f d0 d1 d2 d3 W J T bo aj V bf aw hr cq R Q q HL;go_wp2_with fail
   refine wp_loop_rounds 2 ?_;rw[rounds_succ];go_wp2_with fail
   obtain⟨Y,l⟩:∃Y,Y=w4.alloc (.cells #[.int .u64 x.run, .int .i64 x.node] 274):=⟨_,rfl⟩
   try rw[<-l]
   (obtain⟨z0,z1⟩:=(show _/\_ from l▸Zcz w4 x.run x.node))
   have t:Below w4.heap.size w4 Y:=by rw[l];exact (Zk _ _).alloc (Zx _) _
   have H1:=H4.o.1.below t;have c0:=H1.c0;have c1:=H1.c1;have c2:=H1.c2;have f2:=H1.fz 10;rw[<-H4.o.2.2] at c2;have s:(f0+m) % N<N:=Nat.mod_lt _ (by omega);have e1:wrap64 ((f0:Int)+(m:Int))=((f0+m:Nat):Int):=by unfold wrap64;omega
   have e2:((f0+m:Nat):Int).tmod (N:Int)=(((f0+m) % N:Nat):Int):=rfl;have p:(f0+m) % N<D.length:=by rw[H1.len];exact s
   obtain⟨pos,i⟩:∃pos,pos=(f0+m) % N:=⟨_,rfl⟩;have av:((f0:Int)+(m:Int)) % (N:Int)=(pos:Int):=by rw[i];norm_cast
   have br:((pos:Nat):Int)<(N:Int):=by omega
   rw[<-i] at e2 s p;obtain⟨y,L⟩:∃y,D[pos]? =some y:=⟨_,ZZ p⟩
   have d:∀j u,(AY y)[j]? =some u->Y.cell? ⟨nb,pos * 2+j,none⟩=some u:=by
    intro j u M;have U:j<2:=by have:=(List.getElem?_eq_some_iff.1 M).1;rwa[Zbp] at this
    have cr:pos * 2+2<=N * 2:=by have:=Nat.mul_le_mul_right 2 (show pos+1<=N by omega);omega
    rw[H1.row.cellAt _ (by omega)]
    have e5:D.flatMap AY=(D.take pos).flatMap AY++(AY y++(D.drop (pos+1)).flatMap AY):=by
     conv=>lhs;rw[<-List.take_append_drop pos D,List.drop_eq_getElem_cons p]
     rw[List.flatMap_append,List.flatMap_cons];rw[ZZ p] at L;simp only[Option.some.injEq] at L;rw[L]
    rw[e5,List.getElem?_append_right (by rw[Zaq,List.length_take,Nat.min_eq_left (by omega)];omega),Zaq,List.length_take,Nat.min_eq_left (by omega),Nat.add_sub_cancel_left,List.getElem?_append_left (by rw[Zbp];exact U)];exact M
   have v:∀j,Y.frozen? ⟨nb,pos * 2+j,none⟩=false:=fun j=>H1.row.frozenAt _;have t0:=d 0 _ rfl;have t1:=d 1 _ rfl;have t2:=v 0;have t3:=v 1
   try simp only[Nat.add_zero] at t0 t2
   have ck:nb≠P:=by
    have:=(H1.row.lt nb rfl).1;have:=H1.pb;omega
   have HH:=Zz (Zq H1 (Zq t i));clear H1 t l i d v L
   go_region
   all_goals
    go_wp2_with fail
    rw[rounds_succ];go_wp2_with fail
    go_end0
    obtain⟨q1,q2,q3⟩:=HH.o;have hm:=H4.o.2.2;have hp:=q1.CX (by omega) x;rw[<-hm,<-q3] at hp
    try rw[Nat.mul_one] at hp
    refine⟨rfl,some ⟨nb,0,none⟩,N,N,f0,_,hp.1,(E.o.1.trans (RF.Ae P _ 8 11 q2) (fun k G=>Zu G)).trans hp.2 (fun k G=>Zj (by simp only[Option.some.injEq] at G;have:=E.o.2;omega)),fun k G=>Zj (by simp only[Value.ownBlock,Option.some.injEq] at G;have:=E.o.2;omega)⟩
end Go.Proofs.YtgdcjccbdmcebaaGreatDoor
