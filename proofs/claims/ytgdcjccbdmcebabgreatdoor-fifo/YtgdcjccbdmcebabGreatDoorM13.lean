import Derived.Test.YtgdcjccbdmcebabGreatDoorM12
import Derived.Laws.ResultCell
set_option linter.unusedSimpArgs false
set_option linter.unusedVariables false
namespace Go.Proofs.YtgdcjccbdmcebabGreatDoor
open Go.RowKit
set_option maxRecDepth 100000
attribute [local go_sem ↓] Go.wp_at_zero Go.wp_at_succ
structure QAt0 (w:World)(P B:Nat)(a:Option Addr)(n c:Nat)(f k:Int)(ys:List PlD):Prop where
 c0:w.cell? ⟨P,8,none⟩=some (.slice a n c)
 c1:w.cell? ⟨P,9,none⟩=some (.int .i64 f)
 c2:w.cell? ⟨P,10,none⟩=some (.int .i64 k)
 fz:∀o,w.frozen? ⟨P,o,none⟩=false
 row:w.ownsRow B 180 2 (.slice a n c) n (ys.flatMap plS)
 len:ys.length=n
 pb:P<B
 bs:B<=w.heap.size
theorem QAt.q0 {w:World}{P B:Nat}{a:Option Addr}{n c first:Nat}{ys xs:List PlD}(h:QAt w P B a n c first ys xs):QAt0 w P B a n c first xs.length ys:=⟨h.c0,h.c1,h.c2,h.fz,h.row,h.len,h.pb,h.bs⟩
theorem QAt0.toQ {w:World}{P B:Nat}{a:Option Addr}{n c first:Nat}{f k:Int}{ys xs:List PlD}(h:QAt0 w P B a n c f k ys)(hf:f=first)(hk:k=(xs.length:Int))(hr:RingIs ys first xs)(hn:n<=1000):QAt w P B a n c first ys xs:=⟨h.c0,by rw [<-hf];exact h.c1,by rw [<-hk];exact h.c2,h.fz,h.row,h.len,hr,hn,h.pb,h.bs⟩
theorem QAt0.below {w w':World}{P B:Nat}{a:Option Addr}{n c:Nat}{f k:Int}{ys:List PlD}(h:QAt0 w P B a n c f k ys)(hb:Below w.heap.size w w'):QAt0 w' P B a n c f k ys:=by
 have hP:P<w.heap.size:=Nat.lt_of_lt_of_le h.pb h.bs
 exact⟨(World.cell?_of_block (a:=⟨P,8,none⟩) (hb.block P hP)).trans h.c0,(World.cell?_of_block (a:=⟨P,9,none⟩) (hb.block P hP)).trans h.c1,(World.cell?_of_block (a:=⟨P,10,none⟩) (hb.block P hP)).trans h.c2,fun o=>(World.frozen?_of_block (a:=⟨P,o,none⟩) (hb.block P hP)).trans (h.fz o),Zah h.row hb,h.len,h.pb,Nat.le_trans h.bs hb.size⟩
theorem QAt0.setF {w:World}{P B:Nat}{a:Option Addr}{n c:Nat}{f k:Int}{ys:List PlD}(h:QAt0 w P B a n c f k ys)(v:Int):QAt0 (w.setCell ⟨P,9,none⟩ (.int .i64 v)) P B a n c v k ys :=
 ⟨(Zab w P 9 8 _ (by decide)).trans h.c0,World.cell?_setCell_same _ _ _ h.c1,(Zab w P 9 10 _ (by decide)).trans h.c2,fun o=>(World.frozen?_setCell _ _ _ _).trans (h.fz o),ownsRow_setCell_below h.row h.pb _,h.len,h.pb,by simpa [World.setCell] using h.bs⟩
theorem QAt0.setK {w:World}{P B:Nat}{a:Option Addr}{n c:Nat}{f k:Int}{ys:List PlD}(h:QAt0 w P B a n c f k ys)(v:Int):QAt0 (w.setCell ⟨P,10,none⟩ (.int .i64 v)) P B a n c f v ys :=
 ⟨(Zab w P 10 8 _ (by decide)).trans h.c0,(Zab w P 10 9 _ (by decide)).trans h.c1,World.cell?_setCell_same _ _ _ h.c2,fun o=>(World.frozen?_setCell _ _ _ _).trans (h.fz o),ownsRow_setCell_below h.row h.pb _,h.len,h.pb,by simpa [World.setCell] using h.bs⟩
theorem RF.setNewTR {w x:World}{P g:Nat}{ob:Option Nat}{lo hi:Nat}(h:RF w x P ob lo hi)(o:Nat)(v:Value)(hg:w.heap.size<=g)(hP:g≠P):RF w (x.setCell ⟨g,o,none⟩ v) P ob lo hi :=
 ⟨h.os,h.tape,h.output,by simpa [World.setCell] using h.size,fun k hk a b=>(Below.heap_setCell x ⟨g,o,none⟩ v k (by show k≠g;omega)).trans (h.block k hk a b),fun hp o' ho=>(World.cell?_of_block (a:=⟨P,o',none⟩) (Below.heap_setCell x ⟨g,o,none⟩ v P (Ne.symm hP))).trans (h.off hp o' ho),fun hp o'=>(World.frozen?_setCell _ _ _ _).trans (h.froz hp o')⟩
theorem RF.drewTR {w x:World}{P:Nat}{ob:Option Nat}{lo hi:Nat}(h:RF w x P ob lo hi):RF w x.drew P ob lo hi:=⟨h.os,h.tape,h.output,h.size,h.block,h.off,h.froz⟩
theorem QAt0.setOut {w:World}{P B g:Nat}{a:Option Addr}{n c:Nat}{f k:Int}{ys:List PlD}(h:QAt0 w P B a n c f k ys)(o:Nat)(v:Value)(hg:g≠P)(hr:∀z,(Value.slice a n c).ownBlock=some z->z≠g):QAt0 (w.setCell ⟨g,o,none⟩ v) P B a n c f k ys:=by
 have hb:∀j,j≠g->(w.setCell ⟨g,o,none⟩ v).heap[j]? =w.heap[j]? :=fun j hj=>Below.heap_setCell w ⟨g,o,none⟩ v j hj
 refine⟨(World.cell?_of_block (a:=⟨P,8,none⟩) (hb P (Ne.symm hg))).trans h.c0,(World.cell?_of_block (a:=⟨P,9,none⟩) (hb P (Ne.symm hg))).trans h.c1,(World.cell?_of_block (a:=⟨P,10,none⟩) (hb P (Ne.symm hg))).trans h.c2,fun o'=>(World.frozen?_setCell _ _ _ _).trans (h.fz o'),⟨h.row.1,?_⟩,h.len,h.pb,by simpa [World.setCell] using h.bs⟩
 rcases h.row.2 with h2 | ⟨z,cap,cur,h2,hz,hh,h3⟩
 ·exact Or.inl h2
 ·exact Or.inr ⟨z,cap,cur,h2,hz,(hb z (hr z (by rw [h2];rfl))).trans hh,h3⟩
theorem QAt0.setRow {w:World}{P B g:Nat}{n c:Nat}{f k:Int}{ys:List PlD}(h:QAt0 w P B (some ⟨g,0,none⟩) n c f k ys)(p:Nat)(zs:List PlD)(hp:p+zs.length<=n) :
  QAt0 (w.setCells g (p * 2) (zs.flatMap plS)) P B (some ⟨g,0,none⟩) n c f k (ys.take p++zs++ys.drop (p+zs.length))/\RF w (w.setCells g (p * 2) (zs.flatMap plS)) P (some g) 8 11:=by
 have hgp:g≠P:=by
  have:=(h.row.lt g rfl).1
  have:=h.pb
  omega
 have hP:∀o,(w.setCells g (p * 2) (zs.flatMap plS)).cell? ⟨P,o,none⟩=w.cell? ⟨P,o,none⟩:=fun o=>World.cell?_of_block (a:=⟨P,o,none⟩) (Zan g P (Ne.symm hgp) _ _ _)
 have hFz:∀o,(w.setCells g (p * 2) (zs.flatMap plS)).frozen? ⟨P,o,none⟩=w.frozen? ⟨P,o,none⟩:=fun o=>World.frozen?_of_block (a:=⟨P,o,none⟩) (Zan g P (Ne.symm hgp) _ _ _)
 obtain⟨s1,s2,s3,s4⟩:=Zbo w g (p * 2) (zs.flatMap plS)
 have hfl:=Zao zs
 have hlen:=h.len
 have hrow:(w.setCells g (p * 2) (zs.flatMap plS)).ownsRow B 180 2 (.slice (some ⟨g,0,none⟩) n c) n ((ys.take p++zs++ys.drop (p+zs.length)).flatMap plS):=by
  rcases h.row.2 with⟨h2,_⟩ | ⟨g',cap,cur,h2,hg,hh,h3,h4,h5,h6⟩
  ·cases h2
  ·obtain⟨rfl,rfl⟩:g=g'/\c=cap:=by simpa using h2
   have hpk:p * 2+zs.length * 2<=n * 2:=by rw [<-Nat.add_mul];exact Nat.mul_le_mul_right _ hp
   have hnk:n * 2<=c * 2:=Nat.mul_le_mul_right _ h3
   obtain⟨cur',k1,k2,k3⟩:=Zcc g 180 (zs.flatMap plS) (p * 2) w cur hh (by omega)
   refine⟨by rw [Zao];simp;omega,Or.inr ⟨g,c,cur',rfl,hg,k1,h3,h4,by omega,?_⟩⟩
   have e0:(ys.take p++zs++ys.drop (p+zs.length)).flatMap plS=(ys.flatMap plS).take (p * 2)++zs.flatMap plS++(ys.flatMap plS).drop (p * 2+zs.length * 2):=by
    rw [List.flatMap_append,List.flatMap_append,plS_take,<-Nat.add_mul,plS_drop]
   rw [e0,<-h6,k3,hfl]
   have e1:(cur.toList.take (n * 2)).take (p * 2)=cur.toList.take (p * 2):=by rw [List.take_take,Nat.min_eq_left (by omega)]
   rw [e1,List.take_append,List.take_of_length_le (by rw [List.length_append,List.length_take,Array.length_toList,hfl];omega),List.length_append,List.length_take,Array.length_toList,hfl,Nat.min_eq_left (by omega),List.drop_take]
 refine⟨⟨(hP 8).trans h.c0,(hP 9).trans h.c1,(hP 10).trans h.c2,fun o=>(hFz o).trans (h.fz o),hrow,by simp;omega,h.pb,by rw [s1];exact h.bs⟩,⟨s2,s3,s4,by rw [s1];exact Nat.le_refl _,fun k _ _ hr=>Zan g k (fun e=>hr (by rw [e])) _ _ _,fun _ o _=>hP o,fun _ o=>hFz o⟩⟩
theorem clearTR (w:World)(g p m c:Nat)(cur:Array Value)(hw:w.heap[g]? =some (.cells cur 180 (0,0)))(hs:(p+m) * 2<=cur.size)(hm:0<m)(ty:TypeId) :
  (Builtin.clear_ #[129] ty #[.slice (some ⟨g,p * 2,none⟩) m c]).run Tryz.prog w= .ok (.tuple #[]) (w.setCells g (p * 2) ((List.replicate m (⟨0,0⟩:PlD)).flatMap plS)):=by
 have hl:=Zao (List.replicate m (⟨0,0⟩:PlD))
 rw [List.length_replicate] at hl
 rw [Nat.add_mul] at hs
 refine run_clear_k w 129 180 ty (.agg #[.int .u64 0, .int .i64 0]) Tryz.underlying129 zeroTR m _ (plS_zeros m) (plS_one _) g (p * 2) c hm (fun j hj=> ?_) (fun j _=> ?_)
 ·unfold World.cell?
  rw [hw]
  simp only [Array.getElem?_eq_getElem (show p * 2+j<cur.size by omega)]
  rfl
 ·simp [World.frozen?,hw]
theorem set_replicateTR (ys:List PlD)(p:Nat)(hp:p<ys.length):ys.take p++List.replicate 1 (⟨0,0⟩:PlD)++ys.drop (p+(List.replicate 1 (⟨0,0⟩:PlD)).length)=ys.set p (⟨0,0⟩:PlD):=by
 rw [List.set_eq_take_append_cons_drop,if_pos hp];simp
set_option maxHeartbeats 4000000 in
theorem popTR_any (w:World)(P B n c first:Nat)(a:Option Addr)(ys xs:List PlD)(x:PlD)(h:QAt w P B a n c first ys (x::xs)) :
  Calls Tryz.prog 96 #[.pointer (some ⟨P,8,none⟩)] w fun e w'=>e= .returned (.tuple #[.agg #[.int .u64 x.run, .int .i64 x.node], .bool true])/\∃first' ys',QAt w' P B a n c first' ys' xs/\RF w w' P (Value.slice a n c).ownBlock 8 11:=by
 have hlen:=h.len
 have hfew:=h.few
 have hxs:=h.ring.few
 rw [List.length_cons] at hxs
 have hn0:0<n:=by omega
 have hfn:first<n:=by
  rcases h.ring.first_ with h1 | ⟨_,h2⟩
  ·omega
  ·subst h2;simp at hlen;omega
 obtain⟨g,cur,rfl,hg,hnc,hcm,hgc,hcs⟩:∃g cur,a=some ⟨g,0,none⟩/\B<=g/\n<=c/\c<=maxLen/\w.heap[g]? =some (.cells cur 180 (0,0))/\cur.size=c * 2:=by
  rcases h.row.2 with⟨h2,h3⟩ | ⟨g,cap,cur,h2,hg,hh,h3,h4,h5,_⟩
  ·simp only [Value.slice.injEq] at h2
   omega
  ·obtain⟨rfl,_,rfl⟩:a=some ⟨g,0,none⟩/\n=n/\c=cap:=by simpa using h2
   exact⟨g,cur,rfl,hg,h3,h4,hh,h5⟩
 have hcm:c<=9223372036854775807:=hcm
 obtain⟨w0,hw0⟩:∃w0,w0=w.alloc (.cells #[.int .u64 0, .int .i64 0] 180):=⟨_,rfl⟩
 obtain⟨rb,hrb⟩:∃rb,rb=w.heap.size:=⟨_,rfl⟩
 have hb0:Below w.heap.size w w0:=by rw [hw0];exact (Below.refl _ _).alloc (Nat.le_refl _) _
 obtain⟨b0,b1⟩:=(show _/\_ from hw0▸Zcr w 0 0)
 rw [<-hrb] at b0 b1
 have z0:∀j,w0.frozen? ⟨rb,j,none⟩=false:=fun j=>by unfold World.frozen?;rw [hw0,hrb,heap_alloc_new];rfl
 have hgs:g<w.heap.size:=(Array.getElem?_eq_some_iff.1 hgc).1
 have H0:=h.below hb0
 have hgc0:w0.heap[g]? =some (.cells cur 180 (0,0)):=(hb0.block g hgs).trans hgc
 have c0:=H0.c0
 have c1:=H0.c1
 have c2:=H0.c2
 obtain⟨m,hm⟩:∃m,m=xs.length:=⟨_,rfl⟩
 rw [List.length_cons,<-hm] at c2
 have hem:=emptyTR_any w0 P (m+1) c2
 obtain⟨hx,hpop⟩:=h.ring.pop (⟨0,0⟩:PlD)
 have hcell:∀j u,(plS x)[j]? =some u->w0.cell? ⟨g,first * 2+j,none⟩=some u:=by
  intro j u hj
  have hjk:j<2:=by have:=(List.getElem?_eq_some_iff.1 hj).1;rwa [Zbl] at this
  have hpk:first * 2+2<=n * 2:=by have:=Nat.mul_le_mul_right 2 (show first+1<=n by omega);omega
  rw [H0.row.cellAt _ (by omega)]
  have e5:ys.flatMap plS=(ys.take first).flatMap plS++(plS x++(ys.drop (first+1)).flatMap plS):=by
   conv=>lhs;rw [<-List.take_append_drop first ys,List.drop_eq_getElem_cons (by omega)]
   rw [List.flatMap_append,List.flatMap_cons]
   rw [List.getElem?_eq_getElem (by omega)] at hx
   simp only [Option.some.injEq] at hx
   rw [hx]
  rw [e5,List.getElem?_append_right (by rw [Zao,List.length_take,Nat.min_eq_left (by omega)];omega),Zao,List.length_take,Nat.min_eq_left (by omega),Nat.add_sub_cancel_left,List.getElem?_append_left (by rw [Zbl];exact hjk)]
  exact hj
 have hck:n * 2<=c * 2:=Nat.mul_le_mul_right _ hnc
 have hfk:(first+1) * 2<=n * 2:=Nat.mul_le_mul_right _ (by omega)
 have HX:=Hid.mk (And.intro hpop (And.intro hm (And.intro hlen hfew)))
 have HB0:=Hid.mk (And.intro hb0 (And.intro hrb hw0))
 have HQ:=Hid.mk H0.q0
 have HE:=Hid.mk hem
 have HGC:=Hid.mk (And.intro hgc0 (And.intro (show (first+1) * 2<=cur.size by rw [hcs];exact Nat.le_trans hfk hck) (And.intro hgs h.pb)))
 have t0:=hcell 0 _ rfl;have t1:=hcell 1 _ rfl
 try simp only [Nat.add_zero] at t0 t1
 have e1:wrap64 ((first:Int)+1)=((first+1:Nat):Int):=by unfold wrap64;omega
 have e3:wrap64 ((m+1:Nat) - 1:Int)=(m:Int):=by unfold wrap64;omega
 have g0:decide (m+1=0)=false:=decide_eq_false (by omega)
 have hfc:first+1<=c:=Nat.le_trans (Nat.succ_le_of_lt hfn) hnc
 have hcf:¬c=first:=fun e=>Nat.lt_irrefl _ (Nat.lt_of_lt_of_le hfn (e▸hnc))
 clear h H0 hx hpop hcell hm hlen hfew hxs hgc hgc0 hb0 hw0 hrb hem hck hfk hcs
 go_enter Tryz.func96,Tryz.ntmps96
 go_upto_region 1 with fail
 rw [<-HB0.out.2.1,<-HB0.out.2.2]
 go_upto_region 3 with (go_at_call 95;refine HE.out.mono ?_;rintro e w9 ⟨rfl,hw9⟩;rw [hw9])
 go_region
 obtain⟨w1,hw1⟩:∃w1,w1=w0.drew:=⟨_,rfl⟩
 rw [<-hw1]
 have hb1:Below w0.heap.size w0 w1:=by rw [hw1];exact (Below.refl _ _).drew
 have HQ1:=Hid.mk (HQ.out.below hb1)
 have HGC1:=Hid.mk ((hb1.block g (Zaa HGC.out.1)).trans HGC.out.1)
 have HB1:=Hid.mk hb1
 have t0:=cell_later HB1.out t0;have t1:=cell_later HB1.out t1;have b0:=cell_later HB1.out b0;have b1:=cell_later HB1.out b1
 have z1:∀j,w1.frozen? ⟨rb,j,none⟩=false:=fun j=>by rw [hw1];exact z0 j
 have z10:=z1 0;have z11:=z1 1
 obtain⟨w2,hw2⟩:∃w2,w2=(w1.setCell ⟨rb,0,none⟩ (.int .u64 x.run)).setCell ⟨rb,1,none⟩ (.int .i64 x.node):=⟨_,rfl⟩
 have hrb:=HB0.out.2.1
 have h1:Below w.heap.size w w1:=HB0.out.1.trans' HB1.out
 have hb2:Below w.heap.size w w2:=by rw [hw2];exact (h1.setCell (p:=⟨rb,0,none⟩) (by show _<=rb;omega) _).setCell (p:=⟨rb,1,none⟩) (by show _<=rb;omega) _
 have hQ2:QAt0 w2 P B (some ⟨g,0,none⟩) n c first (m+1:Nat) ys:=by
  have hQ:=HQ1.out
  have hx1:=HX.out.2.1
  rw [List.length_cons,<-hx1] at hQ
  rw [hw2]
  exact (hQ.setOut (g:=rb) 0 _ (by have:=HGC.out.2.2;have:=hQ.bs;omega) (by intro z hz;simp only [Value.ownBlock,Option.some.injEq] at hz;omega)).setOut (g:=rb) 1 _ (by have:=HGC.out.2.2;have:=hQ.bs;omega) (by intro z hz;simp only [Value.ownBlock,Option.some.injEq] at hz;omega)
 have hgc2:w2.heap[g]? =some (.cells cur 180 (0,0)):=by rw [hw2,Below.heap_setCell _ _ _ _ (by simp;omega),Below.heap_setCell _ _ _ _ (by simp;omega)];exact HGC1.out
 have b0:w2.cell? ⟨rb,0,none⟩=some (.int .u64 x.run):=by rw [hw2,Zab _ rb 1 0 _ (by decide)];exact World.cell?_setCell_same _ _ _ b0
 have b1:w2.cell? ⟨rb,1,none⟩=some (.int .i64 x.node):=by rw [hw2];exact World.cell?_setCell_same _ _ _ (by rw [Zab _ rb 0 1 _ (by decide)];exact b1)
 have hcl:=fun ty=>clearTR w2 g first 1 (c - first) cur hgc2 HGC.out.2.1 (by omega) ty
 have hfl:=Zao (List.replicate 1 (⟨0,0⟩:PlD))
 have hset:=hQ2.setRow first (List.replicate 1 (⟨0,0⟩:PlD)) (by simp;omega)
 rw [set_replicateTR ys first (by rw [HX.out.2.2.1];exact hfn)] at hset
 generalize hw3:w2.setCells g (first * 2) ((List.replicate 1 (⟨0,0⟩:PlD)).flatMap plS)=w3 at *
 have b0:w3.cell? ⟨rb,0,none⟩=some (.int .u64 x.run):=by rw [<-hw3];exact (World.cell?_of_block (a:=⟨rb,0,none⟩) (Zan g rb (by omega) _ _ _)).trans b0
 have b1:w3.cell? ⟨rb,1,none⟩=some (.int .i64 x.node):=by rw [<-hw3];exact (World.cell?_of_block (a:=⟨rb,1,none⟩) (Zan g rb (by omega) _ _ _)).trans b1
 have z3:∀j,w3.frozen? ⟨rb,j,none⟩=false:=fun j=>by rw [<-hw3,World.frozen?_of_block (a:=⟨rb,j,none⟩) (Zan g rb (by omega) _ _ _),hw2,World.frozen?_setCell,World.frozen?_setCell];exact z1 j
 have z30:=z3 0;have z31:=z3 1
 clear z0 z1 z3
 have hPr:¬P=rb:=by have:=HGC.out.2.2;have:=HQ.out.bs;omega
 have c0:=hset.1.c0
 have c1:=hset.1.c1
 have c2:=hset.1.c2
 have f1:=hset.1.fz 9
 have f2:=hset.1.fz 10
 have HS:=Hid.mk (And.intro hset (And.intro hb2 hw3))
 try simp only [Nat.mul_one] at hcl
 rw [hw2] at hcl
 have e2:((first+1:Nat):Int).tmod (n:Int)=(((first+1) % n:Nat):Int):=rfl
 obtain⟨pos,hps⟩:∃pos,pos=(first+1) % n:=⟨_,rfl⟩
 have e2':((first:Int)+1) % (n:Int)=(pos:Int):=by rw [hps];norm_cast
 have HPS:=Hid.mk hps
 have hn1:¬((n:Int)=0):=by omega
 rw [<-hps] at e2
 have e3:wrap64 (m:Int)=(m:Int):=by have:=HX.out.1.few;have:=HX.out.2.1;have:=HX.out.2.2;simp only [List.length_set] at *;unfold wrap64;omega
 clear hset hQ2 hgc2 hb2 hw2 hb1 hw1 h1 hrb hw3 hps hfl hcm hnc hg
 go_upto_region 6 with fail
 go_region
 all_goals
  go_wp2_with fail
  (try simp only [Exit.inBlock,Exit.then])
  refine bodyPost_ret (v:= .tuple #[.agg #[.int .u64 x.run, .int .i64 x.node], .bool true]) (by rw [results_cell_tmp rfl];go_simp) rfl ?_
  obtain⟨⟨q1,q2⟩,q3,q4⟩:=HS.out
  obtain⟨r1,r2,r3,r4⟩:=HX.out
  have hp:pos=(first+1) % ys.length:=by rw [r3];exact HPS.out
  have hw:w.heap.size<=w2.heap.size:=q3.size
  have h1:=(q1.setF pos).setK m
  have k1:RF w w3 P (some g) 8 11:=(RF.of_below P _ 8 11 q3).trans q2 (fun k hk=>Or.inl hk)
  have k2:=(k1.trans (RF.setP w3 P 9 (some g) (.int .i64 pos) (lo:=8) (hi:=11) (by decide)) (fun k hk=>Or.inl hk)).trans (RF.setP _ P 10 (some g) (.int .i64 m) (lo:=8) (hi:=11) (by decide)) (fun k hk=>Or.inl hk)
  have hr:w.heap.size<=rb:=by have:=HB0.out.2.1;omega
  have hne:∀z,(Value.slice (some ⟨g,0,none⟩) n c).ownBlock=some z->z≠rb:=by intro z hz;simp only [Value.ownBlock,Option.some.injEq] at hz;have:=HGC.out.2.2;omega
  have h2:=(h1.setOut (g:=rb) 0 (.int .u64 x.run) (fun e=>hPr e.symm) hne).setOut (g:=rb) 1 (.int .i64 x.node) (fun e=>hPr e.symm) hne
  have k3:=(k2.setNewTR (g:=rb) 0 (.int .u64 x.run) hr (fun e=>hPr e.symm)).setNewTR (g:=rb) 1 (.int .i64 x.node) hr (fun e=>hPr e.symm)
  exact⟨rfl,pos,_,(h2.below ((Below.refl _ _).drew)).toQ (first:=pos) rfl (by rw [r2]) (by rw [hp];exact r1) r4,k3.drewTR⟩
structure GoneAt (w:World)(bx rb:Nat)(id:Int):Prop where
 b:w.cell? ⟨bx,0,none⟩=some (.pointer (some ⟨rb,0,none⟩))
 r:w.cell? ⟨rb,0,none⟩=some (.int .u64 id)
 bl:bx<w.heap.size
 rl:rb<w.heap.size
theorem GoneAt.below {w w':World}{bx rb B:Nat}{id:Int}(h:GoneAt w bx rb id)(hb:Below B w w')(h1:bx<B)(h2:rb<B):GoneAt w' bx rb id :=
 ⟨(World.cell?_of_block (a:=⟨bx,0,none⟩) (hb.block bx h1)).trans h.b,(World.cell?_of_block (a:=⟨rb,0,none⟩) (hb.block rb h2)).trans h.r,Nat.lt_of_lt_of_le h.bl hb.size,Nat.lt_of_lt_of_le h.rl hb.size⟩
set_option maxHeartbeats 1000000 in
theorem gone_any (w:World)(bx rb:Nat)(id r nd:Int)(h:GoneAt w bx rb id) :
  Calls Tryz.prog 147 #[.agg #[.int .u64 r, .int .i64 nd], .pointer (some ⟨bx,0,none⟩)] w fun e w'=>e= .returned (.bool (decide (r=id)))/\Below w.heap.size w w':=by
 obtain⟨w0,hw0⟩:∃w0,w0=w.alloc (.cells #[.int .u64 r, .int .i64 nd] 180):=⟨_,rfl⟩
 obtain⟨vb,hvb⟩:∃vb,vb=w.heap.size:=⟨_,rfl⟩
 have hb0:Below w.heap.size w w0:=by rw [hw0];exact (Below.refl _ _).alloc (Nat.le_refl _) _
 obtain⟨z0,z1⟩:=(show _/\_ from hw0▸Zcr w r nd)
 rw [<-hvb] at z0 z1
 have b0:=(World.cell?_of_block (a:=⟨bx,0,none⟩) (hb0.block bx h.bl)).trans h.b
 have r0:=(World.cell?_of_block (a:=⟨rb,0,none⟩) (hb0.block rb h.rl)).trans h.r
 have HW:=Hid.mk (And.intro hb0 (And.intro hvb hw0))
 clear h hb0 hw0 hvb
 go_enter Tryz.func147,Tryz.ntmps147
 go_upto_region 1 with fail
 rw [<-HW.out.2.1,<-HW.out.2.2]
 go_quiet (fail)
 go_wp2_with fail
 go_ret
 exact⟨by first | rfl | (congr 2;by_cases e:r=id<;>simp [e]),HW.out.1.trans' ⟨rfl,rfl,rfl,Nat.le_refl _,fun _ _=>rfl⟩⟩
def Zcy (l:List PlD)(id:Int):Nat:=l.findIdx (fun p=>p.run == id)
def idxI (l:List PlD)(id:Int):Int:=if Zcy l id<l.length then (Zcy l id:Int) else -1
set_option maxHeartbeats 2000000 in
theorem idxS_any (w:World)(B0 B:Nat)(a:Option Addr)(n c bx rb:Nat)(id:Int)(xs:List PlD)(h:w.ownsRow B 180 2 (.slice a n c) n (xs.flatMap plS))(hn:xs.length=n)(hfew:n<=1000)(hg:GoneAt w bx rb id) :
  Calls Tryz.prog 221 #[.slice a n c, .func (.func 147) #[] #[.pointer (some ⟨bx,0,none⟩)]] w fun e w'=>e= .returned (.int .i64 (idxI xs id))/\Below w.heap.size w w':=by
 have HO:=Hid.mk (And.intro h (And.intro hn hg))
 have HB:=Hid.mk (Below.refl w.heap.size w)
 clear h hn hg
 go_enter Tryz.func221,Tryz.ntmps221
 go_wp2_with fail
 go_loopw [8] (fun iv wr=>∃i:Nat,iv= .int .i64 i/\i<=n/\Below w.heap.size w wr/\∀j,j<i->(xs.getD j ⟨0,0⟩).run≠id) (fun iv _=>n - (intOf iv).toNat)
 case atStart=>exact⟨0,rfl,by omega,HB.out,by omega⟩
 case round =>
  obtain⟨i,rfl,hi,hbl,hno⟩:=hrel
  have HBL:=Hid.mk hbl
  have HNO:=Hid.mk hno
  clear hno hbl
  by_cases h1:i<n
  ·obtain⟨ho,hn,hg⟩:=HO.out
   obtain⟨g,cur,rfl,hgl,hnc,hcm⟩:∃g cur,a=some ⟨g,0,none⟩/\w.heap[g]? =some (.cells cur 180 (0,0))/\n<=c/\c<=maxLen:=by
    rcases ho.2 with⟨h2,_⟩ | ⟨g,cap,cur,h2,_,hh,h3,h4,_⟩
    ·simp only [Value.slice.injEq] at h2;omega
    ·obtain⟨rfl,_,rfl⟩:a=some ⟨g,0,none⟩/\n=n/\c=cap:=by simpa using h2
     exact⟨g,cur,rfl,hh,h3,h4⟩
   obtain⟨x,hx⟩:∃x,x=xs.getD i ⟨0,0⟩:=⟨_,rfl⟩
   have hxs:xs[i]? =some x:=by rw [hx,List.getD_eq_getElem?_getD,List.getElem?_eq_getElem (by omega)];rfl
   have hcell:∀j u,(plS x)[j]? =some u->w.cell? ⟨g,i * 2+j,none⟩=some u:=by
    intro j u hj
    have hjk:j<2:=by have:=(List.getElem?_eq_some_iff.1 hj).1;rwa [Zbl] at this
    rw [ho.cellAt _ (by omega)]
    have e5:xs.flatMap plS=(xs.take i).flatMap plS++(plS x++(xs.drop (i+1)).flatMap plS):=by
     conv=>lhs;rw [<-List.take_append_drop i xs,List.drop_eq_getElem_cons (by omega)]
     rw [List.flatMap_append,List.flatMap_cons]
     rw [List.getElem?_eq_getElem (by omega)] at hxs
     simp only [Option.some.injEq] at hxs
     rw [hxs]
    rw [e5,List.getElem?_append_right (by rw [Zao,List.length_take,Nat.min_eq_left (by omega)];omega),Zao,List.length_take,Nat.min_eq_left (by omega),Nat.add_sub_cancel_left,List.getElem?_append_left (by rw [Zbl];exact hjk)]
    exact hj
   have t0:=(World.cell?_of_block (a:=⟨g,i * 2+0,none⟩) (HBL.out.block g (Zaa hgl))).trans (hcell 0 _ rfl)
   have t1:=(World.cell?_of_block (a:=⟨g,i * 2+1,none⟩) (HBL.out.block g (Zaa hgl))).trans (hcell 1 _ rfl)
   simp only [Nat.add_zero] at t0
   have HG:=Hid.mk (gone_any wr bx rb id x.run x.node (hg.below HBL.out hg.bl hg.rl))
   have HX:=Hid.mk hx
   have i1:(i:Int)<(n:Int):=by omega
   clear hgl hcm hcell hxs hx ho hn hg
   by_cases e:x.run=id
   ·have hd:decide (x.run=id)=true:=decide_eq_true e
    rw [hd] at HG
    have HE:=Hid.mk e
    clear e hd
    go_wp2_with (go_at_call 147;refine HG.out.mono ?_;rintro e w3 ⟨rfl,hb3⟩;have HB3:=Hid.mk hb3;clear hb3)
    go_ret
    have hf:Zcy xs id=i:=by
     have hlt:i<xs.length:=by rw [HO.out.2.1];exact h1
     have hxi:xs[i]=x:=by rw [HX.out,List.getD_eq_getElem?_getD,List.getElem?_eq_getElem hlt];rfl
     unfold Zcy
     rw [List.findIdx_eq hlt]
     refine⟨by rw [hxi];simpa using HE.out,fun j hj=> ?_⟩
     have:=HNO.out j hj
     rw [List.getD_eq_getElem?_getD,List.getElem?_eq_getElem (by omega)] at this
     simpa using this
    refine⟨?_,HBL.out.trans' HB3.out⟩
    unfold idxI
    rw [hf,if_pos (by rw [HO.out.2.1];exact h1)]
    rfl
   ·have hd:decide (x.run=id)=false:=decide_eq_false e
    rw [hd] at HG
    have HE:=Hid.mk e
    clear e hd
    go_wp2_with (go_at_call 147;refine HG.out.mono ?_;rintro e w3 ⟨rfl,hb3⟩;have HB3:=Hid.mk hb3;clear hb3)
    go_roundw
    case rel=>exact⟨i+1,by go_num,by omega,HBL.out.trans' HB3.out,fun j hj=>by
     by_cases q:j=i
     ·subst q;rw [<-HX.out];exact HE.out
     ·exact HNO.out j (by omega)⟩
    case measure=>simp [intOf];omega
  ·have hf:¬Zcy xs id<xs.length:=by
    intro hlt
    have h:=List.findIdx_getElem (p:=fun p:PlD=>p.run == id) (w:=hlt)
    have hl:=HNO.out (Zcy xs id) (by have:=HO.out.2.1;omega)
    rw [List.getD_eq_getElem?_getD,List.getElem?_eq_getElem hlt] at hl
    exact hl (eq_of_beq h)
   have HF:=Hid.mk hf
   have i1:¬(i:Int)<(n:Int):=by omega
   clear hf
   go_wp2_with fail
   go_ret
   refine⟨?_,HBL.out⟩
   unfold idxI
   rw [if_neg HF.out]
   rfl
def kept (l:List PlD)(id:Int)(k:Nat):List PlD:=(l.take k).filter (fun p=> !(p.run == id))
theorem kept_succ (l:List PlD)(id:Int){k:Nat}(hk:k<l.length):kept l id (k+1)=kept l id k++(if (l.getD k ⟨0,0⟩).run=id then [] else [l.getD k ⟨0,0⟩]):=by
 unfold kept
 rw [List.take_add_one,List.getElem?_eq_getElem hk,Option.toList_some,List.filter_append,List.getD_eq_getElem?_getD,List.getElem?_eq_getElem hk]
 congr 1
 by_cases e:(l[k]).run=id
 ·simp [e]
 ·simp [e]
theorem kept_first (l:List PlD)(id:Int){k:Nat}(hk:k<=Zcy l id):kept l id k=l.take k:=by
 unfold kept
 rw [List.filter_eq_self]
 intro p hp
 obtain⟨j,hj,rfl⟩:=List.getElem_of_mem hp
 rw [List.length_take] at hj
 have:=List.not_of_lt_findIdx (p:=fun p:PlD=>p.run == id) (xs:=l) (i:=j) (by unfold Zcy at hk;omega)
 rw [List.getElem_take]
 simpa using this
end Go.Proofs.YtgdcjccbdmcebabGreatDoor
