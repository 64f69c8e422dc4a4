import Derived.Test.YtgdcjccbdmcebaaGreatDoorM05
import Derived.Laws.ResultCell
set_option linter.unusedSimpArgs false
set_option linter.unusedVariables false
set_option maxHeartbeats 4000000
set_option maxRecDepth 100000
namespace Go.Proofs.YtgdcjccbdmcebaaGreatDoor
open Tryz
open Go.RowKit
attribute [local go_sem ↓] Go.wp_at_zero Go.wp_at_succ
variable {a:Option Addr}{ys xs:List Int}{w:World}{P B n c:Nat}{f k:Int}{ob:Option Nat}
def FU (w:World)(v:Nat)(x:Int):Prop:=v<w.heap.size/\∀j u,(AF x)[j]? =some u->w.cell? ⟨v,j,none⟩=some u
theorem FU.below {w':World}{v:Nat}{x:Int}(h:FU w v x)(b:Below w.heap.size w w'):FU w' v x:=⟨Zy h.1 b.size,fun j u d=>(World.cell?_of_block (a:=⟨v,j,none⟩) (b.block v h.1)).trans (h.2 j u d)⟩
theorem QO (w:World)(P B n c first O:Nat)(a:Option Addr)(ys xs:List Int)(x:Int)(h:Gw w P B a n c first ys xs)(W:FU w O x)(au:O≠P)(de:some O≠(Value.slice a n c).ownBlock)(dd:xs.length<=400) :
  Calls prog 190 #[.pointer (some ⟨P,5,none⟩), .slice (some ⟨O,0,none⟩) 1 1] w fun e w'=>e= .returned (.tuple #[])/\∃a' n' c' aj db,Gw w' P B a' n' c' aj db (xs++[x])/\RF w w' P (Value.slice a n c).ownBlock 5 8/\∀k,(Value.slice a' n' c').ownBlock=some k->(Value.slice a n c).ownBlock=some k\/w.heap.size<=k:=by
 obtain⟨m,hm⟩:∃m,m=xs.length:=⟨_,rfl⟩;have dc:=h.Bs;have hlen:=h.len;have C:=h.ring;have cr:m<=n:=by have:=C.Bs;omega
 by_cases hr:m<n
 ·obtain⟨g,cur,rfl,hg⟩:∃g cur,a=some ⟨g,0,none⟩/\w.heap[g]? =some (.cells cur 27 (0,0)):=by
   rcases h.row.2 with⟨h2,_⟩ | ⟨g,cap,cur,h2,hg,hh,_⟩
   ·simp only[Value.slice.injEq] at h2
    omega
   ·obtain⟨rfl,_,rfl⟩:a=some ⟨g,0,none⟩/\n=n/\c=cap:=by simpa using h2
    exact⟨g,cur,rfl,hh⟩
  have hf:first<n:=by
   rcases C.Ec with h1 | ⟨_,h2⟩
   ·omega
   ·subst h2;simp at hlen;omega
  have c0:=h.c0;have c1:=h.c1;have c2:=h.c2;have f2:=h.fz 7;rw[<-hm] at c2;have H:=Zz (Zq h (Zq W hm));have x0:=(W.2 0 _ rfl);have bh:decide ((n:Int)<((m+1:Nat):Int))=false:=decide_eq_false (by omega);have e3:wrap64 ((m:Int)+1)=((m+1:Nat):Int):=by unfold wrap64;omega
  clear h W C hlen hg hm
  go_enter func190,ntmps190
  go_wp2_with fail
  refine wp_loop_rounds 2 ?_;rw[rounds_succ];go_wp2_with fail
  obtain⟨w1,z⟩:∃w1,w1=w:=⟨_,rfl⟩
  try rw[<-z]
  skip
  have t:Below w.heap.size w w1:=by rw[z];exact Zk _ _
  have H1:=H.o.1.below t;have c0:=H1.c0;have c1:=H1.c1;have c2:=H1.c2;have f2:=H1.fz 7;rw[<-H.o.2.2] at c2;have s:(first+m) % n<n:=Nat.mod_lt _ (by omega);have e1:wrap64 ((first:Int)+(m:Int))=((first+m:Nat):Int):=by unfold wrap64;omega
  have e2:((first+m:Nat):Int).tmod (n:Int)=(((first+m) % n:Nat):Int):=rfl;have p:(first+m) % n<ys.length:=by rw[H1.len];exact s
  obtain⟨pos,l⟩:∃pos,pos=(first+m) % n:=⟨_,rfl⟩;have aw:((first:Int)+(m:Int)) % (n:Int)=(pos:Int):=by rw[l];norm_cast
  have bw:((pos:Nat):Int)<(n:Int):=by omega
  rw[<-l] at e2 s p;obtain⟨y,L⟩:∃y,ys[pos]? =some y:=⟨_,ZZ p⟩
  have d:∀j u,(AF y)[j]? =some u->w1.cell? ⟨g,pos * 1+j,none⟩=some u:=by
   intro j u M;have U:j<1:=by have:=(List.getElem?_eq_some_iff.1 M).1;rwa[Zbq] at this
   have ct:pos * 1+1<=n * 1:=by have:=Nat.mul_le_mul_right 1 (show pos+1<=n by omega);omega
   rw[H1.row.cellAt _ (by omega)]
   have e5:ys.flatMap AF=(ys.take pos).flatMap AF++(AF y++(ys.drop (pos+1)).flatMap AF):=by
    conv=>lhs;rw[<-List.take_append_drop pos ys,List.drop_eq_getElem_cons p]
    rw[List.flatMap_append,List.flatMap_cons];rw[ZZ p] at L;simp only[Option.some.injEq] at L;rw[L]
   rw[e5,List.getElem?_append_right (by rw[Zav,List.length_take,Nat.min_eq_left (by omega)];omega),Zav,List.length_take,Nat.min_eq_left (by omega),Nat.add_sub_cancel_left,List.getElem?_append_left (by rw[Zbq];exact U)];exact M
  have E:∀j,w1.frozen? ⟨g,pos * 1+j,none⟩=false:=fun j=>H1.row.frozenAt _;have t0:=d 0 _ rfl;have t2:=E 0
  try simp only[Nat.add_zero,Nat.mul_one] at t0 t2
  have cm:g≠P:=by
   have:=(H1.row.lt g rfl).1;have:=H1.pb;omega
  have HH:=Zz (Zq H1 (Zq t l));clear H1 t z l d E L
  go_region
  all_goals
   go_wp2_with fail
   rw[rounds_succ];go_wp2_with fail
   go_end0
   obtain⟨q1,q2,q3⟩:=HH.o;have hm:=H.o.2.2;have hp:=q1.CX (by omega) x;rw[<-hm,<-q3] at hp
   try rw[Nat.mul_one] at hp
   refine⟨rfl,some ⟨g,0,none⟩,n,c,first,_,hp.1,(RF.Ae P _ 5 8 q2).trans hp.2 (fun k I=>Zu I),fun k I=>Zu I⟩
 ·have ay:m=n:=by omega
  obtain⟨N,hN⟩:∃N,N=max (n+1) (2 * n):=⟨_,rfl⟩;have az:m+1<=N/\N<=1000:=by omega
  have ew:wrap64 (2 * (n:Int))=2 * (n:Int):=by unfold wrap64;omega
  have bh:decide ((n:Int)<((m+1:Nat):Int))=true:=decide_eq_true (by omega);have ax:decide ((n:Int)<(m:Int)+1)=true:=decide_eq_true (by omega);have e3:wrap64 ((m:Int)+1)=((m+1:Nat):Int):=by unfold wrap64;omega
  have c0:=h.c0;have c1:=h.c1;have c2:=h.c2;rw[<-hm] at c2;have V:=VQ w N (by omega);obtain⟨nb,ar⟩:∃nb,nb=w.heap.size:=⟨_,rfl⟩;obtain⟨w2,av⟩:∃w2,w2=w.alloc (.cells (madeCells (.int .u64 0:Value).cells (N * 1)) 27):=⟨_,rfl⟩;rw[<-ar,<-av] at V;have b9:Below w.heap.size w w2:=by rw[av];exact (Zk _ _).alloc (Zx _) _
  have cq:w2.heap[nb]? =some (.cells (madeCells (.int .u64 0:Value).cells (N * 1)) 27 (0,0)):=by rw[av,ar];exact heap_alloc_new w _
  have H2:=h.below b9;have bj:=Qq w2 P B n c first a ys xs H2
  rw[<-hm] at bj;have HL:=Zz bj;have b:=Zz (Zq b9 (Zq cq (Zq ar (Zq h (Zq W (Zq hm (Zq az (Zq ay H2))))))));have ae:=H2.c0;have ag:=b.o.2.2.2.1.c0;have ck:=hN;clear av b9 cq ar h W hm hlen C bj hN H2 ay;by_cases hA:2 * n<=n+1
  ·have al:2 * (n:Int)<=(m:Int)+1:=by have:=b.o.2.2.2.2.2.2.2.1;omega
   have cu:max ((m:Int)+1) (2 * (n:Int))=(m:Int)+1:=Int.max_eq_left al;have eN:(N:Int)=(m:Int)+1:=by have:=b.o.2.2.2.2.2.2.2.1;omega
   rw[eN] at V;clear hA ck eN
   go_enter func190,ntmps190
   go_upto_region 3 with fail
   try rw[<-b.o.2.2.1]
   go_upto_region 4 with (go_at_call 258;refine HL.o.mono ?_;rintro e Y ⟨a3,c3,rfl,J,A⟩;have bf:=NX ((A.block nb (Zaa b.o.2.1)).trans b.o.2.1) J b.o.2.2.2.2.2.1 (by have:=b.o.2.2.2.2.2.2.1;omega) (size_madeCells _ _);have q:=Zz (Zq A J);have c0:=cell_later A ae;clear A J)
   clear bf;have R:=Zz (b.o.2.2.2.1.grown (N:=N) (b.o.1.trans' q.o.1) (by have:=b.o.2.2.1;omega) ((q.o.1.block nb (Zaa b.o.2.1)).trans b.o.2.1) (by have:=b.o.2.2.2.2.2.1;have:=b.o.2.2.2.2.2.2.1;omega));have i:=b.o.2.2.2.2.1.below (b.o.1.trans' q.o.1);have v:∀o,(Y.setCells nb 0 (xs.flatMap AF)).frozen? ⟨P,o,none⟩=false:=fun o=>(World.frozen?_of_block (a:=⟨P,o,none⟩) ((Zau nb P (by have:=b.o.2.2.1;have:=b.o.2.2.2.1.pb;have:=b.o.2.2.2.1.bs;omega) _ _ _).trans ((b.o.1.trans' q.o.1).block P (by have:=b.o.2.2.2.1.pb;have:=b.o.2.2.2.1.bs;omega)))).trans (b.o.2.2.2.1.fz o)
   have G:∀o,(Y.setCells nb 0 (xs.flatMap AF)).cell? ⟨P,o,none⟩=w.cell? ⟨P,o,none⟩:=fun o=>World.cell?_of_block (a:=⟨P,o,none⟩) ((Zau nb P (by have:=b.o.2.2.1;have:=b.o.2.2.2.1.pb;have:=b.o.2.2.2.1.bs;omega) _ _ _).trans ((b.o.1.trans' q.o.1).block P (by have:=b.o.2.2.2.1.pb;have:=b.o.2.2.2.1.bs;omega)))
   have S:FU (((Y.setCells nb 0 (xs.flatMap AF)).setCell ⟨P,5,none⟩ (.slice (some ⟨nb,0,none⟩) N N)).setCell ⟨P,6,none⟩ (.int .i64 0)) O x:=by
    refine⟨by simp only[World.setCell,Array.size_modify];rw[(Zbs Y nb 0 _).1];exact i.1,fun j u M=> ?_⟩;have bo:O≠nb:=by have:=b.o.2.2.2.2.1.1;have:=b.o.2.2.1;omega
    refine (World.cell?_setCell_other _ _ _ _ (fun e=>au ((Addr.mk.inj e).1.symm))).trans ((World.cell?_setCell_other _ _ _ _ (fun e=>au ((Addr.mk.inj e).1.symm))).trans ?_);exact (World.cell?_of_block (a:=⟨O,j,none⟩) (Zau nb O bo _ _ _)).trans (i.2 j u M)
   have d0:=(G 5).trans ag;have d1:=(G 6).trans c1;have d2:=v 5;have d3:=v 6;have Q:=Zz S;clear i v G S c0 ae ag
   generalize bp:Y.setCells nb 0 (xs.flatMap AF)=br at *
   go_upto_region 5 with fail
   obtain⟨w4,K⟩:∃w4,w4=(br.setCell ⟨P,5,none⟩ (.slice (some ⟨nb,0,none⟩) N N)).setCell ⟨P,6,none⟩ (.int .i64 0):=⟨_,rfl⟩
   try rw[<-K]
   have hq:=R.o;have i:=Q.o;rw[<-K] at hq i;obtain⟨f0,T⟩:∃f0:Nat,f0=0:=⟨_,rfl⟩;obtain⟨D,X⟩:∃D,D=xs++List.replicate (N - xs.length) (0:Int):=⟨_,rfl⟩;have r:Gw w4 P B (some ⟨nb,0,none⟩) N N f0 D xs:=by rw[T,X];exact hq.1
   have H4:=Zz (Zq r (Zq i b.o.2.2.2.2.2.1));have F:=Zz (Zq hq.2 (show w.heap.size<=nb by have:=b.o.2.2.1;omega));have da:m<N:=by omega
   have cy:N<=1000:=az.2;have c0:=r.c0;have c1:=r.c1;have c2:=r.c2;have f2:=r.fz 7;rw[<-b.o.2.2.2.2.2.1] at c2;have W:=i;have x0:=(W.2 0 _ rfl);have hf:f0<N:=by omega
   clear W hq r i d0 d1 d2 d3 X K T bp al V bh ax hr cr R Q q HL;go_wp2_with fail
   refine wp_loop_rounds 2 ?_;rw[rounds_succ];go_wp2_with fail
   obtain⟨Z,z⟩:∃Z,Z=w4:=⟨_,rfl⟩
   try rw[<-z]
   skip
   have t:Below w4.heap.size w4 Z:=by rw[z];exact Zk _ _
   have H1:=H4.o.1.below t;have c0:=H1.c0;have c1:=H1.c1;have c2:=H1.c2;have f2:=H1.fz 7;rw[<-H4.o.2.2] at c2;have s:(f0+m) % N<N:=Nat.mod_lt _ (by omega);have e1:wrap64 ((f0:Int)+(m:Int))=((f0+m:Nat):Int):=by unfold wrap64;omega
   have e2:((f0+m:Nat):Int).tmod (N:Int)=(((f0+m) % N:Nat):Int):=rfl;have p:(f0+m) % N<D.length:=by rw[H1.len];exact s
   obtain⟨pos,l⟩:∃pos,pos=(f0+m) % N:=⟨_,rfl⟩;have aw:((f0:Int)+(m:Int)) % (N:Int)=(pos:Int):=by rw[l];norm_cast
   have bw:((pos:Nat):Int)<(N:Int):=by omega
   rw[<-l] at e2 s p;obtain⟨y,L⟩:∃y,D[pos]? =some y:=⟨_,ZZ p⟩
   have d:∀j u,(AF y)[j]? =some u->Z.cell? ⟨nb,pos * 1+j,none⟩=some u:=by
    intro j u M;have U:j<1:=by have:=(List.getElem?_eq_some_iff.1 M).1;rwa[Zbq] at this
    have ct:pos * 1+1<=N * 1:=by have:=Nat.mul_le_mul_right 1 (show pos+1<=N by omega);omega
    rw[H1.row.cellAt _ (by omega)]
    have e5:D.flatMap AF=(D.take pos).flatMap AF++(AF y++(D.drop (pos+1)).flatMap AF):=by
     conv=>lhs;rw[<-List.take_append_drop pos D,List.drop_eq_getElem_cons p]
     rw[List.flatMap_append,List.flatMap_cons];rw[ZZ p] at L;simp only[Option.some.injEq] at L;rw[L]
    rw[e5,List.getElem?_append_right (by rw[Zav,List.length_take,Nat.min_eq_left (by omega)];omega),Zav,List.length_take,Nat.min_eq_left (by omega),Nat.add_sub_cancel_left,List.getElem?_append_left (by rw[Zbq];exact U)];exact M
   have E:∀j,Z.frozen? ⟨nb,pos * 1+j,none⟩=false:=fun j=>H1.row.frozenAt _;have t0:=d 0 _ rfl;have t2:=E 0
   try simp only[Nat.add_zero,Nat.mul_one] at t0 t2
   have cm:nb≠P:=by
    have:=(H1.row.lt nb rfl).1;have:=H1.pb;omega
   have HH:=Zz (Zq H1 (Zq t l));clear H1 t z l d E L
   go_region
   all_goals
    go_wp2_with fail
    rw[rounds_succ];go_wp2_with fail
    go_end0
    obtain⟨q1,q2,q3⟩:=HH.o;have hm:=H4.o.2.2;have hp:=q1.CX (by omega) x;rw[<-hm,<-q3] at hp
    try rw[Nat.mul_one] at hp
    refine⟨rfl,some ⟨nb,0,none⟩,N,N,f0,_,hp.1,(F.o.1.trans (RF.Ae P _ 5 8 q2) (fun k I=>Zu I)).trans hp.2 (fun k I=>Zj (by simp only[Option.some.injEq] at I;have:=F.o.2;omega)),fun k I=>Zj (by simp only[Value.ownBlock,Option.some.injEq] at I;have:=F.o.2;omega)⟩
  ·have al:¬(2 * (n:Int)<=(m:Int)+1):=by have:=b.o.2.2.2.2.2.2.2.1;omega
   have cu:max ((m:Int)+1) (2 * (n:Int))=2 * (n:Int):=Int.max_eq_right (by omega);have eN:(N:Int)=2 * (n:Int):=by omega
   rw[eN] at V;clear hA ck eN
   go_enter func190,ntmps190
   go_upto_region 3 with fail
   try rw[<-b.o.2.2.1]
   go_upto_region 4 with (go_at_call 258;refine HL.o.mono ?_;rintro e Y ⟨a3,c3,rfl,J,A⟩;have bf:=NX ((A.block nb (Zaa b.o.2.1)).trans b.o.2.1) J b.o.2.2.2.2.2.1 (by have:=b.o.2.2.2.2.2.2.1;omega) (size_madeCells _ _);have q:=Zz (Zq A J);have c0:=cell_later A ae;clear A J)
   clear bf;have R:=Zz (b.o.2.2.2.1.grown (N:=N) (b.o.1.trans' q.o.1) (by have:=b.o.2.2.1;omega) ((q.o.1.block nb (Zaa b.o.2.1)).trans b.o.2.1) (by have:=b.o.2.2.2.2.2.1;have:=b.o.2.2.2.2.2.2.1;omega));have i:=b.o.2.2.2.2.1.below (b.o.1.trans' q.o.1);have v:∀o,(Y.setCells nb 0 (xs.flatMap AF)).frozen? ⟨P,o,none⟩=false:=fun o=>(World.frozen?_of_block (a:=⟨P,o,none⟩) ((Zau nb P (by have:=b.o.2.2.1;have:=b.o.2.2.2.1.pb;have:=b.o.2.2.2.1.bs;omega) _ _ _).trans ((b.o.1.trans' q.o.1).block P (by have:=b.o.2.2.2.1.pb;have:=b.o.2.2.2.1.bs;omega)))).trans (b.o.2.2.2.1.fz o)
   have G:∀o,(Y.setCells nb 0 (xs.flatMap AF)).cell? ⟨P,o,none⟩=w.cell? ⟨P,o,none⟩:=fun o=>World.cell?_of_block (a:=⟨P,o,none⟩) ((Zau nb P (by have:=b.o.2.2.1;have:=b.o.2.2.2.1.pb;have:=b.o.2.2.2.1.bs;omega) _ _ _).trans ((b.o.1.trans' q.o.1).block P (by have:=b.o.2.2.2.1.pb;have:=b.o.2.2.2.1.bs;omega)))
   have S:FU (((Y.setCells nb 0 (xs.flatMap AF)).setCell ⟨P,5,none⟩ (.slice (some ⟨nb,0,none⟩) N N)).setCell ⟨P,6,none⟩ (.int .i64 0)) O x:=by
    refine⟨by simp only[World.setCell,Array.size_modify];rw[(Zbs Y nb 0 _).1];exact i.1,fun j u M=> ?_⟩;have bo:O≠nb:=by have:=b.o.2.2.2.2.1.1;have:=b.o.2.2.1;omega
    refine (World.cell?_setCell_other _ _ _ _ (fun e=>au ((Addr.mk.inj e).1.symm))).trans ((World.cell?_setCell_other _ _ _ _ (fun e=>au ((Addr.mk.inj e).1.symm))).trans ?_);exact (World.cell?_of_block (a:=⟨O,j,none⟩) (Zau nb O bo _ _ _)).trans (i.2 j u M)
   have d0:=(G 5).trans ag;have d1:=(G 6).trans c1;have d2:=v 5;have d3:=v 6;have Q:=Zz S;clear i v G S c0 ae ag
   generalize bp:Y.setCells nb 0 (xs.flatMap AF)=br at *
   go_upto_region 5 with fail
   obtain⟨w4,K⟩:∃w4,w4=(br.setCell ⟨P,5,none⟩ (.slice (some ⟨nb,0,none⟩) N N)).setCell ⟨P,6,none⟩ (.int .i64 0):=⟨_,rfl⟩
   try rw[<-K]
   have hq:=R.o;have i:=Q.o;rw[<-K] at hq i;obtain⟨f0,T⟩:∃f0:Nat,f0=0:=⟨_,rfl⟩;obtain⟨D,X⟩:∃D,D=xs++List.replicate (N - xs.length) (0:Int):=⟨_,rfl⟩;have r:Gw w4 P B (some ⟨nb,0,none⟩) N N f0 D xs:=by rw[T,X];exact hq.1
   have H4:=Zz (Zq r (Zq i b.o.2.2.2.2.2.1));have F:=Zz (Zq hq.2 (show w.heap.size<=nb by have:=b.o.2.2.1;omega));have da:m<N:=by omega
   have cy:N<=1000:=az.2;have c0:=r.c0;have c1:=r.c1;have c2:=r.c2;have f2:=r.fz 7;rw[<-b.o.2.2.2.2.2.1] at c2;have W:=i;have x0:=(W.2 0 _ rfl);have hf:f0<N:=by omega
   clear W hq r i d0 d1 d2 d3 X K T bp al V bh ax hr cr R Q q HL;go_wp2_with fail
   refine wp_loop_rounds 2 ?_;rw[rounds_succ];go_wp2_with fail
   obtain⟨Z,z⟩:∃Z,Z=w4:=⟨_,rfl⟩
   try rw[<-z]
   skip
   have t:Below w4.heap.size w4 Z:=by rw[z];exact Zk _ _
   have H1:=H4.o.1.below t;have c0:=H1.c0;have c1:=H1.c1;have c2:=H1.c2;have f2:=H1.fz 7;rw[<-H4.o.2.2] at c2;have s:(f0+m) % N<N:=Nat.mod_lt _ (by omega);have e1:wrap64 ((f0:Int)+(m:Int))=((f0+m:Nat):Int):=by unfold wrap64;omega
   have e2:((f0+m:Nat):Int).tmod (N:Int)=(((f0+m) % N:Nat):Int):=rfl;have p:(f0+m) % N<D.length:=by rw[H1.len];exact s
   obtain⟨pos,l⟩:∃pos,pos=(f0+m) % N:=⟨_,rfl⟩;have aw:((f0:Int)+(m:Int)) % (N:Int)=(pos:Int):=by rw[l];norm_cast
   have bw:((pos:Nat):Int)<(N:Int):=by omega
   rw[<-l] at e2 s p;obtain⟨y,L⟩:∃y,D[pos]? =some y:=⟨_,ZZ p⟩
   have d:∀j u,(AF y)[j]? =some u->Z.cell? ⟨nb,pos * 1+j,none⟩=some u:=by
    intro j u M;have U:j<1:=by have:=(List.getElem?_eq_some_iff.1 M).1;rwa[Zbq] at this
    have ct:pos * 1+1<=N * 1:=by have:=Nat.mul_le_mul_right 1 (show pos+1<=N by omega);omega
    rw[H1.row.cellAt _ (by omega)]
    have e5:D.flatMap AF=(D.take pos).flatMap AF++(AF y++(D.drop (pos+1)).flatMap AF):=by
     conv=>lhs;rw[<-List.take_append_drop pos D,List.drop_eq_getElem_cons p]
     rw[List.flatMap_append,List.flatMap_cons];rw[ZZ p] at L;simp only[Option.some.injEq] at L;rw[L]
    rw[e5,List.getElem?_append_right (by rw[Zav,List.length_take,Nat.min_eq_left (by omega)];omega),Zav,List.length_take,Nat.min_eq_left (by omega),Nat.add_sub_cancel_left,List.getElem?_append_left (by rw[Zbq];exact U)];exact M
   have E:∀j,Z.frozen? ⟨nb,pos * 1+j,none⟩=false:=fun j=>H1.row.frozenAt _;have t0:=d 0 _ rfl;have t2:=E 0
   try simp only[Nat.add_zero,Nat.mul_one] at t0 t2
   have cm:nb≠P:=by
    have:=(H1.row.lt nb rfl).1;have:=H1.pb;omega
   have HH:=Zz (Zq H1 (Zq t l));clear H1 t z l d E L
   go_region
   all_goals
    go_wp2_with fail
    rw[rounds_succ];go_wp2_with fail
    go_end0
    obtain⟨q1,q2,q3⟩:=HH.o;have hm:=H4.o.2.2;have hp:=q1.CX (by omega) x;rw[<-hm,<-q3] at hp
    try rw[Nat.mul_one] at hp
    refine⟨rfl,some ⟨nb,0,none⟩,N,N,f0,_,hp.1,(F.o.1.trans (RF.Ae P _ 5 8 q2) (fun k I=>Zu I)).trans hp.2 (fun k I=>Zj (by simp only[Option.some.injEq] at I;have:=F.o.2;omega)),fun k I=>Zj (by simp only[Value.ownBlock,Option.some.injEq] at I;have:=F.o.2;omega)⟩
structure FD (w:World)(P B:Nat)(a:Option Addr)(n c:Nat)(f k:Int)(ys:List Int):Prop where
 c0:w.cell? ⟨P,5,none⟩=some (.slice a n c)
 c1:w.cell? ⟨P,6,none⟩=some (.int .i64 f)
 c2:w.cell? ⟨P,7,none⟩=some (.int .i64 k)
 fz:∀o,w.frozen? ⟨P,o,none⟩=false
 row:w.ownsRow B 27 1 (.slice a n c) n (ys.flatMap AF)
 len:ys.length=n
 pb:P<B
 bs:B<=w.heap.size
theorem Gw.q0 {first:Nat}(h:Gw w P B a n c first ys xs):FD w P B a n c first xs.length ys:=⟨h.c0,h.c1,h.c2,h.fz,h.row,h.len,h.pb,h.bs⟩
theorem FD.toQ {first:Nat}(h:FD w P B a n c f k ys)(hf:f=first)(b:k=(xs.length:Int))(d:Bq ys first xs)(hn:n<=1000):Gw w P B a n c first ys xs:=⟨h.c0,by rw[<-hf];exact h.c1,by rw[<-b];exact h.c2,h.fz,h.row,h.len,d,hn,h.pb,h.bs⟩
theorem FD.below {w':World}(h:FD w P B a n c f k ys)(b:Below w.heap.size w w'):FD w' P B a n c f k ys:=by
 have d:P<w.heap.size:=Zy h.pb h.bs;exact⟨(World.cell?_of_block (a:=⟨P,5,none⟩) (b.block P d)).trans h.c0,(World.cell?_of_block (a:=⟨P,6,none⟩) (b.block P d)).trans h.c1,(World.cell?_of_block (a:=⟨P,7,none⟩) (b.block P d)).trans h.c2,fun o=>(World.frozen?_of_block (a:=⟨P,o,none⟩) (b.block P d)).trans (h.fz o),Zam h.row b,h.len,h.pb,Zv h.bs b.size⟩
theorem FD.KI (h:FD w P B a n c f k ys)(v:Int):FD (w.setCell ⟨P,6,none⟩ (.int .i64 v)) P B a n c v k ys :=
 ⟨(Zac w P 6 5 _ (by decide)).trans h.c0,World.cell?_setCell_same _ _ _ h.c1,(Zac w P 6 7 _ (by decide)).trans h.c2,fun o=>(World.frozen?_setCell _ _ _ _).trans (h.fz o),ownsRow_setCell_below h.row h.pb _,h.len,h.pb,by simpa[World.setCell] using h.bs⟩
theorem FD.WS (h:FD w P B a n c f k ys)(v:Int):FD (w.setCell ⟨P,7,none⟩ (.int .i64 v)) P B a n c f v ys :=
 ⟨(Zac w P 7 5 _ (by decide)).trans h.c0,(Zac w P 7 6 _ (by decide)).trans h.c1,World.cell?_setCell_same _ _ _ h.c2,fun o=>(World.frozen?_setCell _ _ _ _).trans (h.fz o),ownsRow_setCell_below h.row h.pb _,h.len,h.pb,by simpa[World.setCell] using h.bs⟩
theorem RF.drewTU {x:World}{lo hi:Nat}(h:RF w x P ob lo hi):RF w x.drew P ob lo hi:=⟨h.os,h.tape,h.output,h.size,h.block,h.off,h.AE⟩
theorem FD.setRow {g:Nat}(h:FD w P B (some ⟨g,0,none⟩) n c f k ys)(p:Nat)(b:List Int)(hp:p+b.length<=n) :
  FD (w.setCells g (p * 1) (b.flatMap AF)) P B (some ⟨g,0,none⟩) n c f k (ys.take p++b++ys.drop (p+b.length))/\RF w (w.setCells g (p * 1) (b.flatMap AF)) P (some g) 5 8:=by
 have l:g≠P:=by
  have:=(h.row.lt g rfl).1;have:=h.pb;omega
 have q:∀o,(w.setCells g (p * 1) (b.flatMap AF)).cell? ⟨P,o,none⟩=w.cell? ⟨P,o,none⟩:=fun o=>World.cell?_of_block (a:=⟨P,o,none⟩) (Zau g P (Ne.symm l) _ _ _);have j:∀o,(w.setCells g (p * 1) (b.flatMap AF)).frozen? ⟨P,o,none⟩=w.frozen? ⟨P,o,none⟩:=fun o=>World.frozen?_of_block (a:=⟨P,o,none⟩) (Zau g P (Ne.symm l) _ _ _);obtain⟨s1,s2,s3,C⟩:=Zbs w g (p * 1) (b.flatMap AF);have d:=Zav b;have hlen:=h.len
 have m:(w.setCells g (p * 1) (b.flatMap AF)).ownsRow B 27 1 (.slice (some ⟨g,0,none⟩) n c) n ((ys.take p++b++ys.drop (p+b.length)).flatMap AF):=by
  rcases h.row.2 with⟨r,_⟩ | ⟨u,cap,cur,r,hg,hh,s,v,D,x⟩
  ·cases r
  ·obtain⟨rfl,rfl⟩:g=u/\c=cap:=by simpa using r
   have z:p * 1+b.length * 1<=n * 1:=by rw[<-Nat.add_mul];exact Nat.mul_le_mul_right _ hp
   have y:n * 1<=c * 1:=Nat.mul_le_mul_right _ s;obtain⟨i,k1,k2,k3⟩:=Zdi g 27 (b.flatMap AF) (p * 1) w cur hh (by omega);refine⟨by rw[Zav];simp;omega,Zj ⟨g,c,i,rfl,hg,k1,s,v,by omega,?_⟩⟩
   have e0:(ys.take p++b++ys.drop (p+b.length)).flatMap AF=(ys.flatMap AF).take (p * 1)++b.flatMap AF++(ys.flatMap AF).drop (p * 1+b.length * 1):=by
    rw[List.flatMap_append,List.flatMap_append,FA,<-Nat.add_mul,Fz]
   rw[e0,<-x,k3,d];have t:(cur.toList.take (n * 1)).take (p * 1)=cur.toList.take (p * 1):=by rw[List.take_take,Nat.min_eq_left (by omega)]
   rw[t,List.take_append,List.take_of_length_le (by rw[ZX,List.length_take,Array.length_toList,d];omega),ZX,List.length_take,Array.length_toList,d,Nat.min_eq_left (by omega),List.drop_take]
 refine⟨⟨(q 5).trans h.c0,(q 6).trans h.c1,(q 7).trans h.c2,fun o=>(j o).trans (h.fz o),m,by simp;omega,h.pb,by rw[s1];exact h.bs⟩,⟨s2,s3,C,by rw[s1];exact Zx _,fun k _ _ A=>Zau g k (fun e=>A (by rw[e])) _ _ _,fun _ o _=>q o,fun _ o=>j o⟩⟩
theorem Yk (w:World)(g p m c:Nat)(cur:Array Value)(hw:w.heap[g]? =some (.cells cur 27 (0,0)))(b:(p+m) * 1<=cur.size)(hm:0<m)(ty:TypeId) :
  (Builtin.clear_ #[75] ty #[.slice (some ⟨g,p * 1,none⟩) m c]).run prog w= .ok (.tuple #[]) (w.setCells g (p * 1) ((List.replicate m (0:Int)).flatMap AF)):=by
 have hl:=Zav (List.replicate m (0:Int));rw[List.length_replicate] at hl;rw[Nat.add_mul] at b;refine Fg w 75 27 ty (.int .u64 0) underlying75 zeroTU m _ (KT m) (Pw _) g (p * 1) c hm (fun j d=> ?_) (fun j _=> ?_)
 ·unfold World.cell?
  rw[hw];simp only[Array.getElem?_eq_getElem (show p * 1+j<cur.size by omega)]
  rfl
 ·simp[World.frozen?,hw]
theorem Jo (ys:List Int)(p:Nat)(hp:p<ys.length):ys.take p++List.replicate 1 (0:Int)++ys.drop (p+(List.replicate 1 (0:Int)).length)=ys.set p (0:Int):=by
 rw[List.set_eq_take_append_cons_drop,if_pos hp];simp
theorem TH (w:World)(P B n c first:Nat)(a:Option Addr)(ys xs:List Int)(x:Int)(h:Gw w P B a n c first ys (x::xs)) :
  Calls prog 266 #[.pointer (some ⟨P,5,none⟩)] w fun e w'=>e= .returned (.tuple #[.int .u64 x, .bool true])/\∃l ax,Gw w' P B a n c l ax xs/\RF w w' P (Value.slice a n c).ownBlock 5 8:=by
 have hlen:=h.len;have y:=h.Bs;have ag:=h.ring.Bs;rw[List.length_cons] at ag;have bf:0<n:=by omega
 have I:first<n:=by
  rcases h.ring.Ec with R | ⟨_,G⟩
  ·omega
  ·subst G;simp at hlen;omega
 obtain⟨g,cur,rfl,hg,r,H,J,W⟩:∃g cur,a=some ⟨g,0,none⟩/\B<=g/\n<=c/\c<=maxLen/\w.heap[g]? =some (.cells cur 27 (0,0))/\cur.size=c * 1:=by
  rcases h.row.2 with⟨G,h3⟩ | ⟨g,cap,cur,G,hg,hh,h3,h4,h5,_⟩
  ·simp only[Value.slice.injEq] at G
   omega
  ·obtain⟨rfl,_,rfl⟩:a=some ⟨g,0,none⟩/\n=n/\c=cap:=by simpa using G
   exact⟨g,cur,rfl,hg,h3,h4,hh,h5⟩
 have H:c<=9223372036854775807:=H;obtain⟨v,K⟩:∃v,v=w:=⟨_,rfl⟩;obtain⟨rb,t⟩:∃rb,rb=w.heap.size:=⟨_,rfl⟩;have p:Below w.heap.size w v:=by rw[K];exact Zk _ _
 skip
 have Z:g<w.heap.size:=(Array.getElem?_eq_some_iff.1 J).1;have M:=h.below p;have z:v.heap[g]? =some (.cells cur 27 (0,0)):=(p.block g Z).trans J;have c0:=M.c0;have c1:=M.c1;have c2:=M.c2;obtain⟨m,hm⟩:∃m,m=xs.length:=⟨_,rfl⟩;rw[List.length_cons,<-hm] at c2;have X:=EM v P (m+1) c2;obtain⟨hx,C⟩:=h.ring.pop (0:Int)
 have d:∀j u,(AF x)[j]? =some u->v.cell? ⟨g,first * 1+j,none⟩=some u:=by
  intro j u hj;have au:j<1:=by have:=(List.getElem?_eq_some_iff.1 hj).1;rwa[Zbq] at this
  have bj:first * 1+1<=n * 1:=by have:=Nat.mul_le_mul_right 1 (show first+1<=n by omega);omega
  rw[M.row.cellAt _ (by omega)]
  have e5:ys.flatMap AF=(ys.take first).flatMap AF++(AF x++(ys.drop (first+1)).flatMap AF):=by
   conv=>lhs;rw[<-List.take_append_drop first ys,List.drop_eq_getElem_cons (by omega)]
   rw[List.flatMap_append,List.flatMap_cons];rw[ZZ (by omega)] at hx;simp only[Option.some.injEq] at hx;rw[hx]
  rw[e5,List.getElem?_append_right (by rw[Zav,List.length_take,Nat.min_eq_left (by omega)];omega),Zav,List.length_take,Nat.min_eq_left (by omega),Nat.add_sub_cancel_left,List.getElem?_append_left (by rw[Zbq];exact au)];exact hj
 have U:n * 1<=c * 1:=Nat.mul_le_mul_right _ r;have Y:(first+1) * 1<=n * 1:=Nat.mul_le_mul_right _ (by omega);have N:=Zz (Zq C (Zq hm (Zq hlen y)));have E:=Zz (Zq p (Zq t K));have HQ:=Zz M.q0;have HE:=Zz X;have F:=Zz (Zq z (Zq (show (first+1) * 1<=cur.size by rw[W];exact Zv Y U) (Zq Z h.pb)));have t0:=d 0 _ rfl
 try simp only[Nat.add_zero,Nat.mul_one] at t0
 have e1:wrap64 ((first:Int)+1)=((first+1:Nat):Int):=by unfold wrap64;omega
 have e3:wrap64 ((m+1:Nat) - 1:Int)=(m:Int):=by unfold wrap64;omega
 have g0:decide (m+1=0)=false:=decide_eq_false (by omega);have b9:first+1<=c:=Zv (Nat.succ_le_of_lt I) r
 have az:¬c=first:=fun e=>Nat.lt_irrefl _ (Zy I (e▸r))
 clear h M hx C d hm hlen y ag J z p K t X U Y W
 go_enter func266,ntmps266
 go_upto_region 1 with fail
 rw[<-E.o.2.2]
 go_upto_region 3 with (go_at_call 195;refine HE.o.mono ?_;rintro e w9 ⟨rfl,av⟩;rw[av])
 go_region
 obtain⟨w1,L⟩:∃w1,w1=v.drew:=⟨_,rfl⟩;rw[<-L];have q:Below v.heap.size v w1:=by rw[L];exact (Zk _ _).drew
 have al:=Zz (HQ.o.below q);have Q:=Zz ((q.block g (Zaa F.o.1)).trans F.o.1);have O:=Zz q;have t0:=cell_later O.o t0;obtain⟨D,i⟩:∃D,D=w1:=⟨_,rfl⟩;have t:=E.o.2.1;have R:Below w.heap.size w w1:=E.o.1.trans' O.o;have T:Below w.heap.size w D:=by rw[i];exact R
 have S:FD D P B (some ⟨g,0,none⟩) n c first (m+1:Nat) ys:=by
  have hQ:=al.o;have aw:=N.o.2.1;rw[List.length_cons,<-aw] at hQ;rw[i];exact hQ
 have A:D.heap[g]? =some (.cells cur 27 (0,0)):=by rw[i];exact Q.o
 skip
 have V:=fun ty=>Yk D g first 1 (c - first) cur A F.o.2.1 (by omega) ty
 have ar:=Zav (List.replicate 1 (0:Int));have b:=S.setRow first (List.replicate 1 (0:Int)) (by simp;omega)
 rw[Jo ys first (by rw[N.o.2.2.1];exact I)] at b
 generalize ae:D.setCells g (first * 1) ((List.replicate 1 (0:Int)).flatMap AF)=w3 at *
 skip
 have c0:=b.1.c0;have c1:=b.1.c1;have c2:=b.1.c2;have f1:=b.1.fz 6;have f2:=b.1.fz 7;have HS:=Zz (Zq b (Zq T ae))
 try simp only[Nat.mul_one] at V
 rw[i] at V;have e2:((first+1:Nat):Int).tmod (n:Int)=(((first+1) % n:Nat):Int):=rfl;obtain⟨pos,s⟩:∃pos,pos=(first+1) % n:=⟨_,rfl⟩;have ay:((first:Int)+1) % (n:Int)=(pos:Int):=by rw[s];norm_cast
 have aj:=Zz s;have bh:¬((n:Int)=0):=by omega
 rw[<-s] at e2;have e3:wrap64 (m:Int)=(m:Int):=by have:=N.o.1.Bs;have:=N.o.2.1;have:=N.o.2.2;simp only[List.length_set] at *;unfold wrap64;omega
 clear b S A T i q L R t ae s ar H r hg
 go_upto_region 6 with fail
 go_region
 all_goals
  go_wp2_with fail
  go_ret2
  obtain⟨⟨q1,q2⟩,q3,q4⟩:=HS.o;obtain⟨r1,r2,r3,r4⟩:=N.o;have hp:pos=(first+1) % ys.length:=by rw[r3];exact aj.o
  have hw:w.heap.size<=D.heap.size:=q3.size;have R:=(q1.KI pos).WS m;have k1:RF w w3 P (some g) 5 8:=(RF.Ae P _ 5 8 q3).trans q2 (fun k hk=>Zu hk);have k2:=(k1.trans (RF.Bt w3 P 6 (some g) (.int .i64 pos) (lo:=5) (hi:=8) (by decide)) (fun k hk=>Zu hk)).trans (RF.Bt _ P 7 (some g) (.int .i64 m) (lo:=5) (hi:=8) (by decide)) (fun k hk=>Zu hk);have G:=R;have k3:=k2;exact⟨rfl,pos,_,(G.below ((Zk _ _).drew)).toQ (first:=pos) rfl (by rw[r2]) (by rw[hp];exact r1) r4,k3.drewTU⟩
end Go.Proofs.YtgdcjccbdmcebaaGreatDoor
