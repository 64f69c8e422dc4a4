import Derived.Test.YtgdcjccbdmcebaaGreatDoorM20
import Derived.Laws.ResultCell
set_option linter.unusedSimpArgs false
set_option linter.unusedVariables false
set_option maxHeartbeats 4000000
set_option maxRecDepth 100000
namespace Go.Proofs.YtgdcjccbdmcebaaGreatDoor
open Tryz
open Go.RowKit
attribute [local go_sem ↓] Go.wp_at_zero Go.wp_at_succ
variable {a:Option Addr}{ys xs:List AZ}{w:World}{P B n c:Nat}{ob:Option Nat}{f k:Int}
structure Dy (w:World)(P B:Nat)(a:Option Addr)(n c:Nat)(f k:Int)(ys:List AZ):Prop where
 c0:w.cell? ⟨P,8,none⟩=some (.slice a n c)
 c1:w.cell? ⟨P,9,none⟩=some (.int .i64 f)
 c2:w.cell? ⟨P,10,none⟩=some (.int .i64 k)
 fz:∀o,w.frozen? ⟨P,o,none⟩=false
 row:w.ownsRow B 274 2 (.slice a n c) n (ys.flatMap AY)
 len:ys.length=n
 pb:P<B
 bs:B<=w.heap.size
theorem FV.q0 {first:Nat}(h:FV w P B a n c first ys xs):Dy w P B a n c first xs.length ys:=⟨h.c0,h.c1,h.c2,h.fz,h.row,h.len,h.pb,h.bs⟩
theorem Dy.toQ {first:Nat}(h:Dy w P B a n c f k ys)(hf:f=first)(b:k=(xs.length:Int))(d:Bq ys first xs)(hn:n<=1000):FV w P B a n c first ys xs:=⟨h.c0,by rw[<-hf];exact h.c1,by rw[<-b];exact h.c2,h.fz,h.row,h.len,d,hn,h.pb,h.bs⟩
theorem Dy.below {w':World}(h:Dy w P B a n c f k ys)(b:Below w.heap.size w w'):Dy w' P B a n c f k ys:=by
 have d:P<w.heap.size:=Zy h.pb h.bs;exact⟨(World.cell?_of_block (a:=⟨P,8,none⟩) (b.block P d)).trans h.c0,(World.cell?_of_block (a:=⟨P,9,none⟩) (b.block P d)).trans h.c1,(World.cell?_of_block (a:=⟨P,10,none⟩) (b.block P d)).trans h.c2,fun o=>(World.frozen?_of_block (a:=⟨P,o,none⟩) (b.block P d)).trans (h.fz o),Zam h.row b,h.len,h.pb,Zv h.bs b.size⟩
theorem Dy.KI (h:Dy w P B a n c f k ys)(v:Int):Dy (w.setCell ⟨P,9,none⟩ (.int .i64 v)) P B a n c v k ys :=
 ⟨(Zac w P 9 8 _ (by decide)).trans h.c0,World.cell?_setCell_same _ _ _ h.c1,(Zac w P 9 10 _ (by decide)).trans h.c2,fun o=>(World.frozen?_setCell _ _ _ _).trans (h.fz o),ownsRow_setCell_below h.row h.pb _,h.len,h.pb,by simpa[World.setCell] using h.bs⟩
theorem Dy.WS (h:Dy w P B a n c f k ys)(v:Int):Dy (w.setCell ⟨P,10,none⟩ (.int .i64 v)) P B a n c f v ys :=
 ⟨(Zac w P 10 8 _ (by decide)).trans h.c0,(Zac w P 10 9 _ (by decide)).trans h.c1,World.cell?_setCell_same _ _ _ h.c2,fun o=>(World.frozen?_setCell _ _ _ _).trans (h.fz o),ownsRow_setCell_below h.row h.pb _,h.len,h.pb,by simpa[World.setCell] using h.bs⟩
theorem RF.Pj {x:World}{g:Nat}{lo hi:Nat}(h:RF w x P ob lo hi)(o:Nat)(v:Value)(hg:w.heap.size<=g)(e:g≠P):RF w (x.setCell ⟨g,o,none⟩ v) P ob lo hi :=
 ⟨h.os,h.tape,h.output,by simpa[World.setCell] using h.size,fun k i a b=>(Zl x ⟨g,o,none⟩ v k (by show k≠g;omega)).trans (h.block k i a b),fun hp d j=>(World.cell?_of_block (a:=⟨P,d,none⟩) (Zl x ⟨g,o,none⟩ v P (Ne.symm e))).trans (h.off hp d j),fun hp d=>(World.frozen?_setCell _ _ _ _).trans (h.AE hp d)⟩
theorem RF.drewTR {x:World}{lo hi:Nat}(h:RF w x P ob lo hi):RF w x.drew P ob lo hi:=⟨h.os,h.tape,h.output,h.size,h.block,h.off,h.AE⟩
theorem Dy.Nn {g:Nat}(h:Dy w P B a n c f k ys)(o:Nat)(v:Value)(hg:g≠P)(l:∀z,(Value.slice a n c).ownBlock=some z->z≠g):Dy (w.setCell ⟨g,o,none⟩ v) P B a n c f k ys:=by
 have d:∀j,j≠g->(w.setCell ⟨g,o,none⟩ v).heap[j]? =w.heap[j]? :=fun j i=>Zl w ⟨g,o,none⟩ v j i;refine⟨(World.cell?_of_block (a:=⟨P,8,none⟩) (d P (Ne.symm hg))).trans h.c0,(World.cell?_of_block (a:=⟨P,9,none⟩) (d P (Ne.symm hg))).trans h.c1,(World.cell?_of_block (a:=⟨P,10,none⟩) (d P (Ne.symm hg))).trans h.c2,fun p=>(World.frozen?_setCell _ _ _ _).trans (h.fz p),⟨h.row.1,?_⟩,h.len,h.pb,by simpa[World.setCell] using h.bs⟩;rcases h.row.2 with b | ⟨z,cap,cur,b,m,hh,e⟩
 ·exact Zu b
 ·exact Zj ⟨z,cap,cur,b,m,(d z (l z (by rw[b];rfl))).trans hh,e⟩
theorem Dy.setRow {g:Nat}(h:Dy w P B (some ⟨g,0,none⟩) n c f k ys)(p:Nat)(b:List AZ)(hp:p+b.length<=n) :
  Dy (w.setCells g (p * 2) (b.flatMap AY)) P B (some ⟨g,0,none⟩) n c f k (ys.take p++b++ys.drop (p+b.length))/\RF w (w.setCells g (p * 2) (b.flatMap AY)) P (some g) 8 11:=by
 have l:g≠P:=by
  have:=(h.row.lt g rfl).1;have:=h.pb;omega
 have q:∀o,(w.setCells g (p * 2) (b.flatMap AY)).cell? ⟨P,o,none⟩=w.cell? ⟨P,o,none⟩:=fun o=>World.cell?_of_block (a:=⟨P,o,none⟩) (Zap g P (Ne.symm l) _ _ _);have j:∀o,(w.setCells g (p * 2) (b.flatMap AY)).frozen? ⟨P,o,none⟩=w.frozen? ⟨P,o,none⟩:=fun o=>World.frozen?_of_block (a:=⟨P,o,none⟩) (Zap g P (Ne.symm l) _ _ _);obtain⟨s1,s2,s3,C⟩:=Zbt w g (p * 2) (b.flatMap AY);have d:=Zaq b;have hlen:=h.len
 have m:(w.setCells g (p * 2) (b.flatMap AY)).ownsRow B 274 2 (.slice (some ⟨g,0,none⟩) n c) n ((ys.take p++b++ys.drop (p+b.length)).flatMap AY):=by
  rcases h.row.2 with⟨r,_⟩ | ⟨u,cap,cur,r,hg,hh,s,v,D,x⟩
  ·cases r
  ·obtain⟨rfl,rfl⟩:g=u/\c=cap:=by simpa using r
   have z:p * 2+b.length * 2<=n * 2:=by rw[<-Nat.add_mul];exact Nat.mul_le_mul_right _ hp
   have y:n * 2<=c * 2:=Nat.mul_le_mul_right _ s;obtain⟨i,k1,k2,k3⟩:=Zcm g 274 (b.flatMap AY) (p * 2) w cur hh (by omega);refine⟨by rw[Zaq];simp;omega,Zj ⟨g,c,i,rfl,hg,k1,s,v,by omega,?_⟩⟩
   have e0:(ys.take p++b++ys.drop (p+b.length)).flatMap AY=(ys.flatMap AY).take (p * 2)++b.flatMap AY++(ys.flatMap AY).drop (p * 2+b.length * 2):=by
    rw[List.flatMap_append,List.flatMap_append,DP,<-Nat.add_mul,Fb]
   rw[e0,<-x,k3,d];have t:(cur.toList.take (n * 2)).take (p * 2)=cur.toList.take (p * 2):=by rw[List.take_take,Nat.min_eq_left (by omega)]
   rw[t,List.take_append,List.take_of_length_le (by rw[ZX,List.length_take,Array.length_toList,d];omega),ZX,List.length_take,Array.length_toList,d,Nat.min_eq_left (by omega),List.drop_take]
 refine⟨⟨(q 8).trans h.c0,(q 9).trans h.c1,(q 10).trans h.c2,fun o=>(j o).trans (h.fz o),m,by simp;omega,h.pb,by rw[s1];exact h.bs⟩,⟨s2,s3,C,by rw[s1];exact Zx _,fun k _ _ A=>Zap g k (fun e=>A (by rw[e])) _ _ _,fun _ o _=>q o,fun _ o=>j o⟩⟩
theorem Mw (w:World)(g p m c:Nat)(cur:Array Value)(hw:w.heap[g]? =some (.cells cur 274 (0,0)))(b:(p+m) * 2<=cur.size)(hm:0<m)(ty:TypeId) :
  (Builtin.clear_ #[152] ty #[.slice (some ⟨g,p * 2,none⟩) m c]).run prog w= .ok (.tuple #[]) (w.setCells g (p * 2) ((List.replicate m (⟨0,0⟩:AZ)).flatMap AY)):=by
 have hl:=Zaq (List.replicate m (⟨0,0⟩:AZ));rw[List.length_replicate] at hl;rw[Nat.add_mul] at b;refine Fg w 152 274 ty (.agg #[.int .u64 0, .int .i64 0]) underlying152 zeroTR m _ (LY m) (RR _) g (p * 2) c hm (fun j d=> ?_) (fun j _=> ?_)
 ·unfold World.cell?
  rw[hw];simp only[Array.getElem?_eq_getElem (show p * 2+j<cur.size by omega)]
  rfl
 ·simp[World.frozen?,hw]
theorem Jn (ys:List AZ)(p:Nat)(hp:p<ys.length):ys.take p++List.replicate 1 (⟨0,0⟩:AZ)++ys.drop (p+(List.replicate 1 (⟨0,0⟩:AZ)).length)=ys.set p (⟨0,0⟩:AZ):=by
 rw[List.set_eq_take_append_cons_drop,if_pos hp];simp
theorem TG (w:World)(P B n c first:Nat)(a:Option Addr)(ys xs:List AZ)(x:AZ)(h:FV w P B a n c first ys (x::xs)) :
  Calls prog 200 #[.pointer (some ⟨P,8,none⟩)] w fun e w'=>e= .returned (.tuple #[.agg #[.int .u64 x.run, .int .i64 x.node], .bool true])/\∃D bp,FV w' P B a n c D bp xs/\RF w w' P (Value.slice a n c).ownBlock 8 11:=by
 have hlen:=h.len;have K:=h.Bs;have ay:=h.ring.Bs;rw[List.length_cons] at ay;have cm:0<n:=by omega
 have T:first<n:=by
  rcases h.ring.Ec with Z | ⟨_,R⟩
  ·omega
  ·subst R;simp at hlen;omega
 obtain⟨g,cur,rfl,hg,H,S,U,ar⟩:∃g cur,a=some ⟨g,0,none⟩/\B<=g/\n<=c/\c<=maxLen/\w.heap[g]? =some (.cells cur 274 (0,0))/\cur.size=c * 2:=by
  rcases h.row.2 with⟨R,h3⟩ | ⟨g,cap,cur,R,hg,hh,h3,h4,h5,_⟩
  ·simp only[Value.slice.injEq] at R
   omega
  ·obtain⟨rfl,_,rfl⟩:a=some ⟨g,0,none⟩/\n=n/\c=cap:=by simpa using R
   exact⟨g,cur,rfl,hg,h3,h4,hh,h5⟩
 have S:c<=9223372036854775807:=S;obtain⟨A,t⟩:∃A,A=w.alloc (.cells #[.int .u64 0, .int .i64 0] 274):=⟨_,rfl⟩;obtain⟨rb,q⟩:∃rb,rb=w.heap.size:=⟨_,rfl⟩;have F:Below w.heap.size w A:=by rw[t];exact (Zk _ _).alloc (Zx _) _
 obtain⟨O,Q⟩:=(show _/\_ from t▸Zcz w 0 0);rw[<-q] at O Q;have z0:∀j,A.frozen? ⟨rb,j,none⟩=false:=fun j=>by unfold World.frozen?;rw[t,q,heap_alloc_new];rfl
 have aw:g<w.heap.size:=(Array.getElem?_eq_some_iff.1 U).1;have V:=h.below F;have L:A.heap[g]? =some (.cells cur 274 (0,0)):=(F.block g aw).trans U;have c0:=V.c0;have c1:=V.c1;have c2:=V.c2;obtain⟨m,hm⟩:∃m,m=xs.length:=⟨_,rfl⟩;rw[List.length_cons,<-hm] at c2;have au:=EL A P (m+1) c2;obtain⟨hx,N⟩:=h.ring.pop (⟨0,0⟩:AZ)
 have l:∀j u,(AY x)[j]? =some u->A.cell? ⟨g,first * 2+j,none⟩=some u:=by
  intro j u hj;have bh:j<2:=by have:=(List.getElem?_eq_some_iff.1 hj).1;rwa[Zbp] at this
  have cr:first * 2+2<=n * 2:=by have:=Nat.mul_le_mul_right 2 (show first+1<=n by omega);omega
  rw[V.row.cellAt _ (by omega)]
  have e5:ys.flatMap AY=(ys.take first).flatMap AY++(AY x++(ys.drop (first+1)).flatMap AY):=by
   conv=>lhs;rw[<-List.take_append_drop first ys,List.drop_eq_getElem_cons (by omega)]
   rw[List.flatMap_append,List.flatMap_cons];rw[ZZ (by omega)] at hx;simp only[Option.some.injEq] at hx;rw[hx]
  rw[e5,List.getElem?_append_right (by rw[Zaq,List.length_take,Nat.min_eq_left (by omega)];omega),Zaq,List.length_take,Nat.min_eq_left (by omega),Nat.add_sub_cancel_left,List.getElem?_append_left (by rw[Zbp];exact bh)];exact hj
 have aj:n * 2<=c * 2:=Nat.mul_le_mul_right _ H;have av:(first+1) * 2<=n * 2:=Nat.mul_le_mul_right _ (by omega);have W:=Zz (Zq N (Zq hm (Zq hlen K)));have r:=Zz (Zq F (Zq q t));have HQ:=Zz V.q0;have HE:=Zz au;have i:=Zz (Zq L (Zq (show (first+1) * 2<=cur.size by rw[ar];exact Zv av aj) (Zq aw h.pb)));have t0:=l 0 _ rfl;have t1:=l 1 _ rfl
 try simp only[Nat.add_zero] at t0 t1
 have e1:wrap64 ((first:Int)+1)=((first+1:Nat):Int):=by unfold wrap64;omega
 have e3:wrap64 ((m+1:Nat) - 1:Int)=(m:Int):=by unfold wrap64;omega
 have g0:decide (m+1=0)=false:=decide_eq_false (by omega);have ck:first+1<=c:=Zv (Nat.succ_le_of_lt T) H
 have bw:¬c=first:=fun e=>Nat.lt_irrefl _ (Zy T (e▸H))
 clear h V hx N l hm hlen K ay U L F t q au aj av ar
 go_enter func200,ntmps200
 go_upto_region 1 with fail
 rw[<-r.o.2.1,<-r.o.2.2]
 go_upto_region 3 with (go_at_call 199;refine HE.o.mono ?_;rintro e w9 ⟨rfl,bj⟩;rw[bj])
 go_region
 obtain⟨X,J⟩:∃X,X=A.drew:=⟨_,rfl⟩;rw[<-J];have G:Below A.heap.size A X:=by rw[J];exact (Zk _ _).drew
 have b9:=Zz (HQ.o.below G);have Y:=Zz ((G.block g (Zaa i.o.1)).trans i.o.1);have s:=Zz G;have t0:=cell_later s.o t0;have t1:=cell_later s.o t1;have O:=cell_later s.o O;have Q:=cell_later s.o Q;have z1:∀j,X.frozen? ⟨rb,j,none⟩=false:=fun j=>by rw[J];exact z0 j
 have ct:=z1 0;have cu:=z1 1;obtain⟨C,d⟩:∃C,C=(X.setCell ⟨rb,0,none⟩ (.int .u64 x.run)).setCell ⟨rb,1,none⟩ (.int .i64 x.node):=⟨_,rfl⟩;have q:=r.o.2.1;have Z:Below w.heap.size w X:=r.o.1.trans' s.o;have ag:Below w.heap.size w C:=by rw[d];exact (Z.setCell (p:=⟨rb,0,none⟩) (by show _<=rb;omega) _).setCell (p:=⟨rb,1,none⟩) (by show _<=rb;omega) _
 have ae:Dy C P B (some ⟨g,0,none⟩) n c first (m+1:Nat) ys:=by
  have hQ:=b9.o;have bo:=W.o.2.1;rw[List.length_cons,<-bo] at hQ;rw[d];exact (hQ.Nn (g:=rb) 0 _ (by have:=i.o.2.2;have:=hQ.bs;omega) (by intro z hz;simp only[Value.ownBlock,Option.some.injEq] at hz;omega)).Nn (g:=rb) 1 _ (by have:=i.o.2.2;have:=hQ.bs;omega) (by intro z hz;simp only[Value.ownBlock,Option.some.injEq] at hz;omega)
 have M:C.heap[g]? =some (.cells cur 274 (0,0)):=by rw[d,Zl _ _ _ _ (by simp;omega),Zl _ _ _ _ (by simp;omega)];exact Y.o
 have O:C.cell? ⟨rb,0,none⟩=some (.int .u64 x.run):=by rw[d,Zac _ rb 1 0 _ (by decide)];exact World.cell?_setCell_same _ _ _ O
 have Q:C.cell? ⟨rb,1,none⟩=some (.int .i64 x.node):=by rw[d];exact World.cell?_setCell_same _ _ _ (by rw[Zac _ rb 0 1 _ (by decide)];exact Q)
 have al:=fun ty=>Mw C g first 1 (c - first) cur M i.o.2.1 (by omega) ty
 have bf:=Zaq (List.replicate 1 (⟨0,0⟩:AZ));have b:=ae.setRow first (List.replicate 1 (⟨0,0⟩:AZ)) (by simp;omega)
 rw[Jn ys first (by rw[W.o.2.2.1];exact T)] at b
 generalize y:C.setCells g (first * 2) ((List.replicate 1 (⟨0,0⟩:AZ)).flatMap AY)=w3 at *
 have O:w3.cell? ⟨rb,0,none⟩=some (.int .u64 x.run):=by rw[<-y];exact (World.cell?_of_block (a:=⟨rb,0,none⟩) (Zap g rb (by omega) _ _ _)).trans O
 have Q:w3.cell? ⟨rb,1,none⟩=some (.int .i64 x.node):=by rw[<-y];exact (World.cell?_of_block (a:=⟨rb,1,none⟩) (Zap g rb (by omega) _ _ _)).trans Q
 have z3:∀j,w3.frozen? ⟨rb,j,none⟩=false:=fun j=>by rw[<-y,World.frozen?_of_block (a:=⟨rb,j,none⟩) (Zap g rb (by omega) _ _ _),d,World.frozen?_setCell,World.frozen?_setCell];exact z1 j
 have cy:=z3 0;have z31:=z3 1;clear z0 z1 z3;have E:¬P=rb:=by have:=i.o.2.2;have:=HQ.o.bs;omega
 have c0:=b.1.c0;have c1:=b.1.c1;have c2:=b.1.c2;have f1:=b.1.fz 9;have f2:=b.1.fz 10;have HS:=Zz (Zq b (Zq ag y))
 try simp only[Nat.mul_one] at al
 rw[d] at al;have e2:((first+1:Nat):Int).tmod (n:Int)=(((first+1) % n:Nat):Int):=rfl;obtain⟨pos,I⟩:∃pos,pos=(first+1) % n:=⟨_,rfl⟩;have br:((first:Int)+1) % (n:Int)=(pos:Int):=by rw[I];norm_cast
 have az:=Zz I;have cq:¬((n:Int)=0):=by omega
 rw[<-I] at e2;have e3:wrap64 (m:Int)=(m:Int):=by have:=W.o.1.Bs;have:=W.o.2.1;have:=W.o.2.2;simp only[List.length_set] at *;unfold wrap64;omega
 clear b ae M ag d G J Z q y I bf S H hg
 go_upto_region 6 with fail
 go_region
 all_goals
  go_wp2_with fail
  (try simp only[Exit.inBlock,Exit.then])
  refine bodyPost_ret (v:= .tuple #[.agg #[.int .u64 x.run, .int .i64 x.node], .bool true]) (by rw[results_cell_tmp rfl];go_simp) rfl ?_;obtain⟨⟨q1,q2⟩,q3,q4⟩:=HS.o;obtain⟨r1,r2,r3,r4⟩:=W.o;have hp:pos=(first+1) % ys.length:=by rw[r3];exact az.o
  have hw:w.heap.size<=C.heap.size:=q3.size;have Z:=(q1.KI pos).WS m;have k1:RF w w3 P (some g) 8 11:=(RF.Ae P _ 8 11 q3).trans q2 (fun k hk=>Zu hk);have k2:=(k1.trans (RF.Bt w3 P 9 (some g) (.int .i64 pos) (lo:=8) (hi:=11) (by decide)) (fun k hk=>Zu hk)).trans (RF.Bt _ P 10 (some g) (.int .i64 m) (lo:=8) (hi:=11) (by decide)) (fun k hk=>Zu hk);have hr:w.heap.size<=rb:=by have:=r.o.2.1;omega
  have ax:∀z,(Value.slice (some ⟨g,0,none⟩) n c).ownBlock=some z->z≠rb:=by intro z hz;simp only[Value.ownBlock,Option.some.injEq] at hz;have:=i.o.2.2;omega
  have R:=(Z.Nn (g:=rb) 0 (.int .u64 x.run) (fun e=>E e.symm) ax).Nn (g:=rb) 1 (.int .i64 x.node) (fun e=>E e.symm) ax;have k3:=(k2.Pj (g:=rb) 0 (.int .u64 x.run) hr (fun e=>E e.symm)).Pj (g:=rb) 1 (.int .i64 x.node) hr (fun e=>E e.symm);exact⟨rfl,pos,_,(R.below ((Zk _ _).drew)).toQ (first:=pos) rfl (by rw[r2]) (by rw[hp];exact r1) r4,k3.drewTR⟩
structure EB (w:World)(bx rb:Nat)(id:Int):Prop where
 b:w.cell? ⟨bx,0,none⟩=some (.pointer (some ⟨rb,0,none⟩))
 r:w.cell? ⟨rb,0,none⟩=some (.int .u64 id)
 bl:bx<w.heap.size
 rl:rb<w.heap.size
theorem EB.below {w':World}{d rb:Nat}{id:Int}(h:EB w d rb id)(e:Below B w w')(g:d<B)(i:rb<B):EB w' d rb id :=
 ⟨(World.cell?_of_block (a:=⟨d,0,none⟩) (e.block d g)).trans h.b,(World.cell?_of_block (a:=⟨rb,0,none⟩) (e.block rb i)).trans h.r,Zy h.bl e.size,Zy h.rl e.size⟩
theorem Ow (w:World)(j rb:Nat)(id r nd:Int)(h:EB w j rb id) :
  Calls prog 230 #[.agg #[.int .u64 r, .int .i64 nd], .pointer (some ⟨j,0,none⟩)] w fun e w'=>e= .returned (.bool (decide (r=id)))/\Below w.heap.size w w':=by
 obtain⟨m,g⟩:∃m,m=w.alloc (.cells #[.int .u64 r, .int .i64 nd] 274):=⟨_,rfl⟩;obtain⟨p,i⟩:∃p,p=w.heap.size:=⟨_,rfl⟩;have d:Below w.heap.size w m:=by rw[g];exact (Zk _ _).alloc (Zx _) _
 obtain⟨z0,q⟩:=(show _/\_ from g▸Zcz w r nd);rw[<-i] at z0 q;have s:=(World.cell?_of_block (a:=⟨j,0,none⟩) (d.block j h.bl)).trans h.b;have r0:=(World.cell?_of_block (a:=⟨rb,0,none⟩) (d.block rb h.rl)).trans h.r;have l:=Zz (Zq d (Zq i g));clear h d g i
 go_enter func230,ntmps230
 go_upto_region 1 with fail
 rw[<-l.o.2.1,<-l.o.2.2]
 go_quiet (fail)
 go_wp2_with fail
 go_ret
 exact⟨by first | rfl | (congr 2;by_cases e:r=id<;>simp[e]),l.o.1.trans' ⟨rfl,rfl,rfl,Zx _,fun _ _=>rfl⟩⟩
def Zc5 (l:List AZ)(id:Int):Nat:=l.findIdx (fun p=>p.run == id)
def Td (l:List AZ)(id:Int):Int:=if Zc5 l id<l.length then (Zc5 l id:Int) else -1
theorem Vp (w:World)(B0 B:Nat)(a:Option Addr)(n c G rb:Nat)(id:Int)(xs:List AZ)(h:w.ownsRow B 274 2 (.slice a n c) n (xs.flatMap AY))(hn:xs.length=n)(R:n<=1000)(hg:EB w G rb id) :
  Calls prog 286 #[.slice a n c, .func (.func 230) #[] #[.pointer (some ⟨G,0,none⟩)]] w fun e w'=>e= .returned (.int .i64 (Td xs id))/\Below w.heap.size w w':=by
 have E:=Zz (Zq h (Zq hn hg));have S:=Zz (Zk w.heap.size w);clear h hn hg
 go_enter func286,ntmps286
 go_wp2_with fail
 go_loopw [8] (fun N wr=>∃i:Nat,N= .int .i64 i/\i<=n/\Below w.heap.size w wr/\∀j,j<i->(xs.getD j ⟨0,0⟩).run≠id) (fun N _=>n - (intOf N).toNat)
 case atStart=>exact⟨0,rfl,by omega,S.o,by omega⟩
 case round =>
  obtain⟨i,rfl,hi,y,C⟩:=hrel;have d:=Zz y;have t:=Zz C;clear C y;by_cases Q:i<n
  ·obtain⟨K,hn,hg⟩:=E.o
   obtain⟨g,cur,rfl,v,W,I⟩:∃g cur,a=some ⟨g,0,none⟩/\w.heap[g]? =some (.cells cur 274 (0,0))/\n<=c/\c<=maxLen:=by
    rcases K.2 with⟨H,_⟩ | ⟨g,cap,cur,H,_,hh,U,V,_⟩
    ·simp only[Value.slice.injEq] at H;omega
    ·obtain⟨rfl,_,rfl⟩:a=some ⟨g,0,none⟩/\n=n/\c=cap:=by simpa using H
     exact⟨g,cur,rfl,hh,U,V⟩
   obtain⟨x,L⟩:∃x,x=xs.getD i ⟨0,0⟩:=⟨_,rfl⟩;have r:xs[i]? =some x:=by rw[L,ZQ,ZZ (by omega)];rfl
   have b:∀j u,(AY x)[j]? =some u->w.cell? ⟨g,i * 2+j,none⟩=some u:=by
    intro j u A;have J:j<2:=by have:=(List.getElem?_eq_some_iff.1 A).1;rwa[Zbp] at this
    rw[K.cellAt _ (by omega)]
    have T:xs.flatMap AY=(xs.take i).flatMap AY++(AY x++(xs.drop (i+1)).flatMap AY):=by
     conv=>lhs;rw[<-List.take_append_drop i xs,List.drop_eq_getElem_cons (by omega)]
     rw[List.flatMap_append,List.flatMap_cons];rw[ZZ (by omega)] at r;simp only[Option.some.injEq] at r;rw[r]
    rw[T,List.getElem?_append_right (by rw[Zaq,List.length_take,Nat.min_eq_left (by omega)];omega),Zaq,List.length_take,Nat.min_eq_left (by omega),Nat.add_sub_cancel_left,List.getElem?_append_left (by rw[Zbp];exact J)];exact A
   have t0:=(World.cell?_of_block (a:=⟨g,i * 2+0,none⟩) (d.o.block g (Zaa v))).trans (b 0 _ rfl);have t1:=(World.cell?_of_block (a:=⟨g,i * 2+1,none⟩) (d.o.block g (Zaa v))).trans (b 1 _ rfl);simp only[Nat.add_zero] at t0;have D:=Zz (Ow wr G rb id x.run x.node (hg.below d.o hg.bl hg.rl));have O:=Zz L;have i1:(i:Int)<(n:Int):=by omega
   clear v I b r L K hn hg;by_cases e:x.run=id
   ·have z:decide (x.run=id)=true:=decide_eq_true e
    rw[z] at D;have F:=Zz e;clear e z;go_wp2_with (go_at_call 230;refine D.o.mono ?_;rintro e X ⟨rfl,l⟩;have s:=Zz l;clear l)
    go_ret
    have hf:Zc5 xs id=i:=by
     have m:i<xs.length:=by rw[E.o.2.1];exact Q
     have M:xs[i]=x:=by rw[O.o,ZQ,ZZ m];rfl
     unfold Zc5;rw[List.findIdx_eq m];refine⟨by rw[M];simpa using F.o,fun j A=> ?_⟩;have:=t.o j A;rw[ZQ,ZZ (by omega)] at this;simpa using this
    refine⟨?_,d.o.trans' s.o⟩;unfold Td;rw[hf,if_pos (by rw[E.o.2.1];exact Q)]
    rfl
   ·have z:decide (x.run=id)=false:=decide_eq_false e
    rw[z] at D;have F:=Zz e;clear e z;go_wp2_with (go_at_call 230;refine D.o.mono ?_;rintro e X ⟨rfl,l⟩;have s:=Zz l;clear l)
    go_roundw
    case rel=>exact⟨i+1,by go_num,by omega,d.o.trans' s.o,fun j A=>by
     by_cases q:j=i
     ·subst q;rw[<-O.o];exact F.o
     ·exact t.o j (by omega)⟩
    case measure=>simp[intOf];omega
  ·have hf:¬Zc5 xs id<xs.length:=by
    intro m;have h:=List.findIdx_getElem (p:=fun p:AZ=>p.run == id) (w:=m);have hl:=t.o (Zc5 xs id) (by have:=E.o.2.1;omega);rw[ZQ,ZZ m] at hl;exact hl (eq_of_beq h)
   have HF:=Zz hf;have i1:¬(i:Int)<(n:Int):=by omega
   clear hf;go_wp2_with fail
   go_ret
   refine⟨?_,d.o⟩;unfold Td;rw[if_neg HF.o]
   rfl
def kept (l:List AZ)(id:Int)(k:Nat):List AZ:=(l.take k).filter (fun p=> !(p.run == id))
theorem Ig (l:List AZ)(id:Int){k:Nat}(b:k<l.length):kept l id (k+1)=kept l id k++(if (l.getD k ⟨0,0⟩).run=id then [] else [l.getD k ⟨0,0⟩]):=by
 unfold kept;rw[List.take_add_one,ZZ b,Option.toList_some,List.filter_append,ZQ,ZZ b]
 congr 1
 by_cases e:(l[k]).run=id
 ·simp[e]
 ·simp[e]
theorem JX (l:List AZ)(id:Int){k:Nat}(d:k<=Zc5 l id):kept l id k=l.take k:=by
 unfold kept;rw[List.filter_eq_self];intro p hp;obtain⟨j,b,rfl⟩:=List.getElem_of_mem hp;rw[List.length_take] at b;have:=List.not_of_lt_findIdx (p:=fun p:AZ=>p.run == id) (xs:=l) (i:=j) (by unfold Zc5 at d;omega);rw[List.getElem_take];simpa using this
end Go.Proofs.YtgdcjccbdmcebaaGreatDoor
