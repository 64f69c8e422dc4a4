import Derived.Test.YtgdcjccbdmcebabGreatDoorM02
set_option linter.unusedSimpArgs false
set_option linter.unusedVariables false
namespace Go.Proofs.YtgdcjccbdmcebabGreatDoor
open Go.RowKit
set_option maxRecDepth 100000
attribute [local go_sem ↓] Go.wp_at_zero Go.wp_at_succ
def ItemTR (w:World)(v:Nat)(x:PlD):Prop:=v<w.heap.size/\∀j u,(plS x)[j]? =some u->w.cell? ⟨v,j,none⟩=some u
theorem ItemTR.below {w w':World}{v:Nat}{x:PlD}(h:ItemTR w v x)(hb:Below w.heap.size w w'):ItemTR w' v x:=⟨Nat.lt_of_lt_of_le h.1 hb.size,fun j u hj=>(World.cell?_of_block (a:=⟨v,j,none⟩) (hb.block v h.1)).trans (h.2 j u hj)⟩
theorem Zcr (w:World)(r nd:Int):(w.alloc (.cells #[.int .u64 r, .int .i64 nd] 180)).cell? ⟨w.heap.size,0,none⟩=some (.int .u64 r)/\(w.alloc (.cells #[.int .u64 r, .int .i64 nd] 180)).cell? ⟨w.heap.size,1,none⟩=some (.int .i64 nd):=by
 have h:=heap_alloc_new w (.cells #[.int .u64 r, .int .i64 nd] 180)
 refine⟨?_,?_⟩<;>(unfold World.cell?;rw [h];rfl)
set_option maxHeartbeats 4000000 in
theorem pushTR_any (w:World)(P B n c first vb:Nat)(a:Option Addr)(ys xs:List PlD)(x:PlD)(h:QAt w P B a n c first ys xs)(hx:ItemTR w vb x)(hvP:vb≠P)(hva:some vb≠(Value.slice a n c).ownBlock)(hm5:xs.length<=400) :
  Calls Tryz.prog 140 #[.pointer (some ⟨P,8,none⟩), .slice (some ⟨vb,0,none⟩) 1 1] w fun e w'=>e= .returned (.tuple #[])/\∃a' n' c' first' ys',QAt w' P B a' n' c' first' ys' (xs++[x])/\RF w w' P (Value.slice a n c).ownBlock 8 11/\∀k,(Value.slice a' n' c').ownBlock=some k->(Value.slice a n c).ownBlock=some k\/w.heap.size<=k:=by
 obtain⟨m,hm⟩:∃m,m=xs.length:=⟨_,rfl⟩
 have hfew:=h.few
 have hlen:=h.len
 have hring:=h.ring
 have hmn:m<=n:=by have:=hring.few;omega
 by_cases hr:m<n
 ·obtain⟨g,cur,rfl,hg⟩:∃g cur,a=some ⟨g,0,none⟩/\w.heap[g]? =some (.cells cur 180 (0,0)):=by
   rcases h.row.2 with⟨h2,_⟩ | ⟨g,cap,cur,h2,hg,hh,_⟩
   ·simp only [Value.slice.injEq] at h2
    omega
   ·obtain⟨rfl,_,rfl⟩:a=some ⟨g,0,none⟩/\n=n/\c=cap:=by simpa using h2
    exact⟨g,cur,rfl,hh⟩
  have hf:first<n:=by
   rcases hring.first_ with h1 | ⟨_,h2⟩
   ·omega
   ·subst h2;simp at hlen;omega
  have c0:=h.c0
  have c1:=h.c1
  have c2:=h.c2
  have f2:=h.fz 10
  rw [<-hm] at c2
  have H:=Hid.mk (And.intro h (And.intro hx hm))
  have x0:=(hx.2 0 _ rfl);have x1:=(hx.2 1 _ rfl)
  have hgr:decide ((n:Int)<((m+1:Nat):Int))=false:=decide_eq_false (by omega)
  have e3:wrap64 ((m:Int)+1)=((m+1:Nat):Int):=by unfold wrap64;omega
  clear h hx hring hlen hg hm
  go_enter Tryz.func140,Tryz.ntmps140
  go_wp2_with fail
  refine wp_loop_rounds 2 ?_
  rw [rounds_succ]
  go_wp2_with fail
  obtain⟨w1,hw1⟩:∃w1,w1=w.alloc (.cells #[.int .u64 x.run, .int .i64 x.node] 180):=⟨_,rfl⟩
  try rw [<-hw1]
  (obtain⟨z0,z1⟩:=(show _/\_ from hw1▸Zcr w x.run x.node))
  have hb1:Below w.heap.size w w1:=by rw [hw1];exact (Below.refl _ _).alloc (Nat.le_refl _) _
  have H1:=H.out.1.below hb1
  have c0:=H1.c0
  have c1:=H1.c1
  have c2:=H1.c2
  have f2:=H1.fz 10
  rw [<-H.out.2.2] at c2
  have hpos:(first+m) % n<n:=Nat.mod_lt _ (by omega)
  have e1:wrap64 ((first:Int)+(m:Int))=((first+m:Nat):Int):=by unfold wrap64;omega
  have e2:((first+m:Nat):Int).tmod (n:Int)=(((first+m) % n:Nat):Int):=rfl
  have hyl:(first+m) % n<ys.length:=by rw [H1.len];exact hpos
  obtain⟨pos,hps⟩:∃pos,pos=(first+m) % n:=⟨_,rfl⟩
  have e2'':((first:Int)+(m:Int)) % (n:Int)=(pos:Int):=by rw [hps];norm_cast
  have e2a:((pos:Nat):Int)<(n:Int):=by omega
  rw [<-hps] at e2 hpos hyl
  obtain⟨y,hy⟩:∃y,ys[pos]? =some y:=⟨_,List.getElem?_eq_getElem hyl⟩
  have hcell:∀j u,(plS y)[j]? =some u->w1.cell? ⟨g,pos * 2+j,none⟩=some u:=by
   intro j u hj
   have hjk:j<2:=by have:=(List.getElem?_eq_some_iff.1 hj).1;rwa [Zbl] at this
   have hpk:pos * 2+2<=n * 2:=by have:=Nat.mul_le_mul_right 2 (show pos+1<=n by omega);omega
   rw [H1.row.cellAt _ (by omega)]
   have e5:ys.flatMap plS=(ys.take pos).flatMap plS++(plS y++(ys.drop (pos+1)).flatMap plS):=by
    conv=>lhs;rw [<-List.take_append_drop pos ys,List.drop_eq_getElem_cons hyl]
    rw [List.flatMap_append,List.flatMap_cons]
    rw [List.getElem?_eq_getElem hyl] at hy
    simp only [Option.some.injEq] at hy
    rw [hy]
   rw [e5,List.getElem?_append_right (by rw [Zao,List.length_take,Nat.min_eq_left (by omega)];omega),Zao,List.length_take,Nat.min_eq_left (by omega),Nat.add_sub_cancel_left,List.getElem?_append_left (by rw [Zbl];exact hjk)]
   exact hj
  have hfz:∀j,w1.frozen? ⟨g,pos * 2+j,none⟩=false:=fun j=>H1.row.frozenAt _
  have t0:=hcell 0 _ rfl;have t1:=hcell 1 _ rfl;have t2:=hfz 0;have t3:=hfz 1
  try simp only [Nat.add_zero] at t0 t2
  have hgP:g≠P:=by
   have:=(H1.row.lt g rfl).1
   have:=H1.pb
   omega
  have HH:=Hid.mk (And.intro H1 (And.intro hb1 hps))
  clear H1 hb1 hw1 hps hcell hfz hy
  go_region
  all_goals
   go_wp2_with fail
   rw [rounds_succ]
   go_wp2_with fail
   go_end0
   obtain⟨q1,q2,q3⟩:=HH.out
   have hm:=H.out.2.2
   have hp:=q1.pushed (by omega) x
   rw [<-hm,<-q3] at hp
   try rw [Nat.mul_one] at hp
   refine⟨rfl,some ⟨g,0,none⟩,n,c,first,_,hp.1,(RF.of_below P _ 8 11 q2).trans hp.2 (fun k hk=>Or.inl hk),fun k hk=>Or.inl hk⟩
 ·have hmn2:m=n:=by omega
  obtain⟨N,hN⟩:∃N,N=max (n+1) (2 * n):=⟨_,rfl⟩
  have hN1:m+1<=N/\N<=1000:=by omega
  have ew:wrap64 (2 * (n:Int))=2 * (n:Int):=by unfold wrap64;omega
  have hgr:decide ((n:Int)<((m+1:Nat):Int))=true:=decide_eq_true (by omega)
  have hgr2:decide ((n:Int)<(m:Int)+1)=true:=decide_eq_true (by omega)
  have e3:wrap64 ((m:Int)+1)=((m+1:Nat):Int):=by unfold wrap64;omega
  have c0:=h.c0
  have c1:=h.c1
  have c2:=h.c2
  rw [<-hm] at c2
  have hmk:=makeTR w N (by omega)
  obtain⟨nb,hnb⟩:∃nb,nb=w.heap.size:=⟨_,rfl⟩
  obtain⟨w2,hw2⟩:∃w2,w2=w.alloc (.cells (madeCells (.agg #[.int .u64 0, .int .i64 0]:Value).cells (N * 2)) 180):=⟨_,rfl⟩
  rw [<-hnb,<-hw2] at hmk
  have hb2:Below w.heap.size w w2:=by rw [hw2];exact (Below.refl _ _).alloc (Nat.le_refl _) _
  have hl2:w2.heap[nb]? =some (.cells (madeCells (.agg #[.int .u64 0, .int .i64 0]:Value).cells (N * 2)) 180 (0,0)):=by rw [hw2,hnb];exact heap_alloc_new w _
  have H2:=h.below hb2
  have hls:=listTR_any w2 P B n c first a ys xs H2
  rw [<-hm] at hls
  have HL:=Hid.mk hls
  have HG:=Hid.mk (And.intro hb2 (And.intro hl2 (And.intro hnb (And.intro h (And.intro hx (And.intro hm (And.intro hN1 (And.intro hmn2 H2))))))))
  have c0':=H2.c0
  have c0x:=HG.out.2.2.2.1.c0
  have hNN:=hN
  clear hw2 hb2 hl2 hnb h hx hm hlen hring hls hN H2 hmn2
  by_cases hA:2 * n<=n+1
  ·have hA2:2 * (n:Int)<=(m:Int)+1:=by have:=HG.out.2.2.2.2.2.2.2.1;omega
   have eN:(N:Int)=(m:Int)+1:=by have:=HG.out.2.2.2.2.2.2.2.1;omega
   rw [eN] at hmk
   clear hA hNN eN
   go_enter Tryz.func140,Tryz.ntmps140
   go_upto_region 3 with fail
   try rw [<-HG.out.2.2.1]
   go_upto_region 4 with (go_at_call 93;refine HL.out.mono ?_;rintro e w3 ⟨a3,c3,rfl,ho3,hb3⟩;have hcp:=copyInTR ((hb3.block nb (Zaa HG.out.2.1)).trans HG.out.2.1) ho3 HG.out.2.2.2.2.2.1 (by have:=HG.out.2.2.2.2.2.2.1;omega) (size_madeCells _ _);have HB3:=Hid.mk (And.intro hb3 ho3);have c0:=cell_later hb3 c0';clear hb3 ho3)
   clear hcp
   have HN4:=Hid.mk (HG.out.2.2.2.1.grown (N:=N) (HG.out.1.trans' HB3.out.1) (by have:=HG.out.2.2.1;omega) ((HB3.out.1.block nb (Zaa HG.out.2.1)).trans HG.out.2.1) (by have:=HG.out.2.2.2.2.2.1;have:=HG.out.2.2.2.2.2.2.1;omega))
   have hit:=HG.out.2.2.2.2.1.below (HG.out.1.trans' HB3.out.1)
   have hfz3:∀o,(w3.setCells nb 0 (xs.flatMap plS)).frozen? ⟨P,o,none⟩=false:=fun o=>(World.frozen?_of_block (a:=⟨P,o,none⟩) ((Zan nb P (by have:=HG.out.2.2.1;have:=HG.out.2.2.2.1.pb;have:=HG.out.2.2.2.1.bs;omega) _ _ _).trans ((HG.out.1.trans' HB3.out.1).block P (by have:=HG.out.2.2.2.1.pb;have:=HG.out.2.2.2.1.bs;omega)))).trans (HG.out.2.2.2.1.fz o)
   have hc3:∀o,(w3.setCells nb 0 (xs.flatMap plS)).cell? ⟨P,o,none⟩=w.cell? ⟨P,o,none⟩:=fun o=>World.cell?_of_block (a:=⟨P,o,none⟩) ((Zan nb P (by have:=HG.out.2.2.1;have:=HG.out.2.2.2.1.pb;have:=HG.out.2.2.2.1.bs;omega) _ _ _).trans ((HG.out.1.trans' HB3.out.1).block P (by have:=HG.out.2.2.2.1.pb;have:=HG.out.2.2.2.1.bs;omega)))
   have hIt:ItemTR (((w3.setCells nb 0 (xs.flatMap plS)).setCell ⟨P,8,none⟩ (.slice (some ⟨nb,0,none⟩) N N)).setCell ⟨P,9,none⟩ (.int .i64 0)) vb x:=by
    refine⟨by simp only [World.setCell,Array.size_modify];rw [(Zbo w3 nb 0 _).1];exact hit.1,fun j u hj=> ?_⟩
    have hvn:vb≠nb:=by have:=HG.out.2.2.2.2.1.1;have:=HG.out.2.2.1;omega
    refine (World.cell?_setCell_other _ _ _ _ (fun e=>hvP ((Addr.mk.inj e).1.symm))).trans ((World.cell?_setCell_other _ _ _ _ (fun e=>hvP ((Addr.mk.inj e).1.symm))).trans ?_)
    exact (World.cell?_of_block (a:=⟨vb,j,none⟩) (Zan nb vb hvn _ _ _)).trans (hit.2 j u hj)
   have d0:=(hc3 8).trans c0x
   have d1:=(hc3 9).trans c1
   have d2:=hfz3 8
   have d3:=hfz3 9
   have HIT:=Hid.mk hIt
   clear hit hfz3 hc3 hIt c0 c0' c0x
   generalize hw3:w3.setCells nb 0 (xs.flatMap plS)=w3' at *
   go_upto_region 5 with fail
   obtain⟨w4,hw4⟩:∃w4,w4=(w3'.setCell ⟨P,8,none⟩ (.slice (some ⟨nb,0,none⟩) N N)).setCell ⟨P,9,none⟩ (.int .i64 0):=⟨_,rfl⟩
   try rw [<-hw4]
   have hq:=HN4.out
   have hit:=HIT.out
   rw [<-hw4] at hq hit
   obtain⟨f0,hf0⟩:∃f0:Nat,f0=0:=⟨_,rfl⟩
   obtain⟨zs,hzs⟩:∃zs,zs=xs++List.replicate (N - xs.length) (⟨0,0⟩:PlD):=⟨_,rfl⟩
   have hq1:QAt w4 P B (some ⟨nb,0,none⟩) N N f0 zs xs:=by rw [hf0,hzs];exact hq.1
   have H4:=Hid.mk (And.intro hq1 (And.intro hit HG.out.2.2.2.2.2.1))
   have HF4:=Hid.mk (And.intro hq.2 (show w.heap.size<=nb by have:=HG.out.2.2.1;omega))
   have hmN:m<N:=by omega
   have hNx:N<=1000:=hN1.2
   have c0:=hq1.c0
   have c1:=hq1.c1
   have c2:=hq1.c2
   have f2:=hq1.fz 10
   rw [<-HG.out.2.2.2.2.2.1] at c2
   have hx:=hit
   have x0:=(hx.2 0 _ rfl);have x1:=(hx.2 1 _ rfl)
   have hf:f0<N:=by omega
   clear hx hq hq1 hit d0 d1 d2 d3 hzs hw4 hf0 hw3 hA2 hmk hgr hgr2 hr hmn HN4 HIT HB3 HL
   go_wp2_with fail
   refine wp_loop_rounds 2 ?_
   rw [rounds_succ]
   go_wp2_with fail
   obtain⟨w5,hw1⟩:∃w5,w5=w4.alloc (.cells #[.int .u64 x.run, .int .i64 x.node] 180):=⟨_,rfl⟩
   try rw [<-hw1]
   (obtain⟨z0,z1⟩:=(show _/\_ from hw1▸Zcr w4 x.run x.node))
   have hb1:Below w4.heap.size w4 w5:=by rw [hw1];exact (Below.refl _ _).alloc (Nat.le_refl _) _
   have H1:=H4.out.1.below hb1
   have c0:=H1.c0
   have c1:=H1.c1
   have c2:=H1.c2
   have f2:=H1.fz 10
   rw [<-H4.out.2.2] at c2
   have hpos:(f0+m) % N<N:=Nat.mod_lt _ (by omega)
   have e1:wrap64 ((f0:Int)+(m:Int))=((f0+m:Nat):Int):=by unfold wrap64;omega
   have e2:((f0+m:Nat):Int).tmod (N:Int)=(((f0+m) % N:Nat):Int):=rfl
   have hyl:(f0+m) % N<zs.length:=by rw [H1.len];exact hpos
   obtain⟨pos,hps⟩:∃pos,pos=(f0+m) % N:=⟨_,rfl⟩
   have e2'':((f0:Int)+(m:Int)) % (N:Int)=(pos:Int):=by rw [hps];norm_cast
   have e2a:((pos:Nat):Int)<(N:Int):=by omega
   rw [<-hps] at e2 hpos hyl
   obtain⟨y,hy⟩:∃y,zs[pos]? =some y:=⟨_,List.getElem?_eq_getElem hyl⟩
   have hcell:∀j u,(plS y)[j]? =some u->w5.cell? ⟨nb,pos * 2+j,none⟩=some u:=by
    intro j u hj
    have hjk:j<2:=by have:=(List.getElem?_eq_some_iff.1 hj).1;rwa [Zbl] at this
    have hpk:pos * 2+2<=N * 2:=by have:=Nat.mul_le_mul_right 2 (show pos+1<=N by omega);omega
    rw [H1.row.cellAt _ (by omega)]
    have e5:zs.flatMap plS=(zs.take pos).flatMap plS++(plS y++(zs.drop (pos+1)).flatMap plS):=by
     conv=>lhs;rw [<-List.take_append_drop pos zs,List.drop_eq_getElem_cons hyl]
     rw [List.flatMap_append,List.flatMap_cons]
     rw [List.getElem?_eq_getElem hyl] at hy
     simp only [Option.some.injEq] at hy
     rw [hy]
    rw [e5,List.getElem?_append_right (by rw [Zao,List.length_take,Nat.min_eq_left (by omega)];omega),Zao,List.length_take,Nat.min_eq_left (by omega),Nat.add_sub_cancel_left,List.getElem?_append_left (by rw [Zbl];exact hjk)]
    exact hj
   have hfz:∀j,w5.frozen? ⟨nb,pos * 2+j,none⟩=false:=fun j=>H1.row.frozenAt _
   have t0:=hcell 0 _ rfl;have t1:=hcell 1 _ rfl;have t2:=hfz 0;have t3:=hfz 1
   try simp only [Nat.add_zero] at t0 t2
   have hgP:nb≠P:=by
    have:=(H1.row.lt nb rfl).1
    have:=H1.pb
    omega
   have HH:=Hid.mk (And.intro H1 (And.intro hb1 hps))
   clear H1 hb1 hw1 hps hcell hfz hy
   go_region
   all_goals
    go_wp2_with fail
    rw [rounds_succ]
    go_wp2_with fail
    go_end0
    obtain⟨q1,q2,q3⟩:=HH.out
    have hm:=H4.out.2.2
    have hp:=q1.pushed (by omega) x
    rw [<-hm,<-q3] at hp
    try rw [Nat.mul_one] at hp
    refine⟨rfl,some ⟨nb,0,none⟩,N,N,f0,_,hp.1,(HF4.out.1.trans (RF.of_below P _ 8 11 q2) (fun k hk=>Or.inl hk)).trans hp.2 (fun k hk=>Or.inr (by simp only [Option.some.injEq] at hk;have:=HF4.out.2;omega)),fun k hk=>Or.inr (by simp only [Value.ownBlock,Option.some.injEq] at hk;have:=HF4.out.2;omega)⟩
  ·have hA2:¬(2 * (n:Int)<=(m:Int)+1):=by have:=HG.out.2.2.2.2.2.2.2.1;omega
   have eN:(N:Int)=2 * (n:Int):=by omega
   rw [eN] at hmk
   clear hA hNN eN
   go_enter Tryz.func140,Tryz.ntmps140
   go_upto_region 3 with fail
   try rw [<-HG.out.2.2.1]
   go_upto_region 4 with (go_at_call 93;refine HL.out.mono ?_;rintro e w3 ⟨a3,c3,rfl,ho3,hb3⟩;have hcp:=copyInTR ((hb3.block nb (Zaa HG.out.2.1)).trans HG.out.2.1) ho3 HG.out.2.2.2.2.2.1 (by have:=HG.out.2.2.2.2.2.2.1;omega) (size_madeCells _ _);have HB3:=Hid.mk (And.intro hb3 ho3);have c0:=cell_later hb3 c0';clear hb3 ho3)
   clear hcp
   have HN4:=Hid.mk (HG.out.2.2.2.1.grown (N:=N) (HG.out.1.trans' HB3.out.1) (by have:=HG.out.2.2.1;omega) ((HB3.out.1.block nb (Zaa HG.out.2.1)).trans HG.out.2.1) (by have:=HG.out.2.2.2.2.2.1;have:=HG.out.2.2.2.2.2.2.1;omega))
   have hit:=HG.out.2.2.2.2.1.below (HG.out.1.trans' HB3.out.1)
   have hfz3:∀o,(w3.setCells nb 0 (xs.flatMap plS)).frozen? ⟨P,o,none⟩=false:=fun o=>(World.frozen?_of_block (a:=⟨P,o,none⟩) ((Zan nb P (by have:=HG.out.2.2.1;have:=HG.out.2.2.2.1.pb;have:=HG.out.2.2.2.1.bs;omega) _ _ _).trans ((HG.out.1.trans' HB3.out.1).block P (by have:=HG.out.2.2.2.1.pb;have:=HG.out.2.2.2.1.bs;omega)))).trans (HG.out.2.2.2.1.fz o)
   have hc3:∀o,(w3.setCells nb 0 (xs.flatMap plS)).cell? ⟨P,o,none⟩=w.cell? ⟨P,o,none⟩:=fun o=>World.cell?_of_block (a:=⟨P,o,none⟩) ((Zan nb P (by have:=HG.out.2.2.1;have:=HG.out.2.2.2.1.pb;have:=HG.out.2.2.2.1.bs;omega) _ _ _).trans ((HG.out.1.trans' HB3.out.1).block P (by have:=HG.out.2.2.2.1.pb;have:=HG.out.2.2.2.1.bs;omega)))
   have hIt:ItemTR (((w3.setCells nb 0 (xs.flatMap plS)).setCell ⟨P,8,none⟩ (.slice (some ⟨nb,0,none⟩) N N)).setCell ⟨P,9,none⟩ (.int .i64 0)) vb x:=by
    refine⟨by simp only [World.setCell,Array.size_modify];rw [(Zbo w3 nb 0 _).1];exact hit.1,fun j u hj=> ?_⟩
    have hvn:vb≠nb:=by have:=HG.out.2.2.2.2.1.1;have:=HG.out.2.2.1;omega
    refine (World.cell?_setCell_other _ _ _ _ (fun e=>hvP ((Addr.mk.inj e).1.symm))).trans ((World.cell?_setCell_other _ _ _ _ (fun e=>hvP ((Addr.mk.inj e).1.symm))).trans ?_)
    exact (World.cell?_of_block (a:=⟨vb,j,none⟩) (Zan nb vb hvn _ _ _)).trans (hit.2 j u hj)
   have d0:=(hc3 8).trans c0x
   have d1:=(hc3 9).trans c1
   have d2:=hfz3 8
   have d3:=hfz3 9
   have HIT:=Hid.mk hIt
   clear hit hfz3 hc3 hIt c0 c0' c0x
   generalize hw3:w3.setCells nb 0 (xs.flatMap plS)=w3' at *
   go_upto_region 5 with fail
   obtain⟨w4,hw4⟩:∃w4,w4=(w3'.setCell ⟨P,8,none⟩ (.slice (some ⟨nb,0,none⟩) N N)).setCell ⟨P,9,none⟩ (.int .i64 0):=⟨_,rfl⟩
   try rw [<-hw4]
   have hq:=HN4.out
   have hit:=HIT.out
   rw [<-hw4] at hq hit
   obtain⟨f0,hf0⟩:∃f0:Nat,f0=0:=⟨_,rfl⟩
   obtain⟨zs,hzs⟩:∃zs,zs=xs++List.replicate (N - xs.length) (⟨0,0⟩:PlD):=⟨_,rfl⟩
   have hq1:QAt w4 P B (some ⟨nb,0,none⟩) N N f0 zs xs:=by rw [hf0,hzs];exact hq.1
   have H4:=Hid.mk (And.intro hq1 (And.intro hit HG.out.2.2.2.2.2.1))
   have HF4:=Hid.mk (And.intro hq.2 (show w.heap.size<=nb by have:=HG.out.2.2.1;omega))
   have hmN:m<N:=by omega
   have hNx:N<=1000:=hN1.2
   have c0:=hq1.c0
   have c1:=hq1.c1
   have c2:=hq1.c2
   have f2:=hq1.fz 10
   rw [<-HG.out.2.2.2.2.2.1] at c2
   have hx:=hit
   have x0:=(hx.2 0 _ rfl);have x1:=(hx.2 1 _ rfl)
   have hf:f0<N:=by omega
   clear hx hq hq1 hit d0 d1 d2 d3 hzs hw4 hf0 hw3 hA2 hmk hgr hgr2 hr hmn HN4 HIT HB3 HL
   go_wp2_with fail
   refine wp_loop_rounds 2 ?_
   rw [rounds_succ]
   go_wp2_with fail
   obtain⟨w5,hw1⟩:∃w5,w5=w4.alloc (.cells #[.int .u64 x.run, .int .i64 x.node] 180):=⟨_,rfl⟩
   try rw [<-hw1]
   (obtain⟨z0,z1⟩:=(show _/\_ from hw1▸Zcr w4 x.run x.node))
   have hb1:Below w4.heap.size w4 w5:=by rw [hw1];exact (Below.refl _ _).alloc (Nat.le_refl _) _
   have H1:=H4.out.1.below hb1
   have c0:=H1.c0
   have c1:=H1.c1
   have c2:=H1.c2
   have f2:=H1.fz 10
   rw [<-H4.out.2.2] at c2
   have hpos:(f0+m) % N<N:=Nat.mod_lt _ (by omega)
   have e1:wrap64 ((f0:Int)+(m:Int))=((f0+m:Nat):Int):=by unfold wrap64;omega
   have e2:((f0+m:Nat):Int).tmod (N:Int)=(((f0+m) % N:Nat):Int):=rfl
   have hyl:(f0+m) % N<zs.length:=by rw [H1.len];exact hpos
   obtain⟨pos,hps⟩:∃pos,pos=(f0+m) % N:=⟨_,rfl⟩
   have e2'':((f0:Int)+(m:Int)) % (N:Int)=(pos:Int):=by rw [hps];norm_cast
   have e2a:((pos:Nat):Int)<(N:Int):=by omega
   rw [<-hps] at e2 hpos hyl
   obtain⟨y,hy⟩:∃y,zs[pos]? =some y:=⟨_,List.getElem?_eq_getElem hyl⟩
   have hcell:∀j u,(plS y)[j]? =some u->w5.cell? ⟨nb,pos * 2+j,none⟩=some u:=by
    intro j u hj
    have hjk:j<2:=by have:=(List.getElem?_eq_some_iff.1 hj).1;rwa [Zbl] at this
    have hpk:pos * 2+2<=N * 2:=by have:=Nat.mul_le_mul_right 2 (show pos+1<=N by omega);omega
    rw [H1.row.cellAt _ (by omega)]
    have e5:zs.flatMap plS=(zs.take pos).flatMap plS++(plS y++(zs.drop (pos+1)).flatMap plS):=by
     conv=>lhs;rw [<-List.take_append_drop pos zs,List.drop_eq_getElem_cons hyl]
     rw [List.flatMap_append,List.flatMap_cons]
     rw [List.getElem?_eq_getElem hyl] at hy
     simp only [Option.some.injEq] at hy
     rw [hy]
    rw [e5,List.getElem?_append_right (by rw [Zao,List.length_take,Nat.min_eq_left (by omega)];omega),Zao,List.length_take,Nat.min_eq_left (by omega),Nat.add_sub_cancel_left,List.getElem?_append_left (by rw [Zbl];exact hjk)]
    exact hj
   have hfz:∀j,w5.frozen? ⟨nb,pos * 2+j,none⟩=false:=fun j=>H1.row.frozenAt _
   have t0:=hcell 0 _ rfl;have t1:=hcell 1 _ rfl;have t2:=hfz 0;have t3:=hfz 1
   try simp only [Nat.add_zero] at t0 t2
   have hgP:nb≠P:=by
    have:=(H1.row.lt nb rfl).1
    have:=H1.pb
    omega
   have HH:=Hid.mk (And.intro H1 (And.intro hb1 hps))
   clear H1 hb1 hw1 hps hcell hfz hy
   go_region
   all_goals
    go_wp2_with fail
    rw [rounds_succ]
    go_wp2_with fail
    go_end0
    obtain⟨q1,q2,q3⟩:=HH.out
    have hm:=H4.out.2.2
    have hp:=q1.pushed (by omega) x
    rw [<-hm,<-q3] at hp
    try rw [Nat.mul_one] at hp
    refine⟨rfl,some ⟨nb,0,none⟩,N,N,f0,_,hp.1,(HF4.out.1.trans (RF.of_below P _ 8 11 q2) (fun k hk=>Or.inl hk)).trans hp.2 (fun k hk=>Or.inr (by simp only [Option.some.injEq] at hk;have:=HF4.out.2;omega)),fun k hk=>Or.inr (by simp only [Value.ownBlock,Option.some.injEq] at hk;have:=HF4.out.2;omega)⟩
end Go.Proofs.YtgdcjccbdmcebabGreatDoor
