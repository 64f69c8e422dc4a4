import Derived.Test.YtgdcjccbdmcebaaGreatDoorM04
import Derived.Test.YtgdcjccbdmcebaaGreatDoorM09
import Derived.Laws.ResultCell
set_option linter.all false
set_option maxHeartbeats 4000000
set_option maxRecDepth 100000
open Array renaming length_toList->QGr
open Bool renaming and_eq_true->QCg,eq_false_iff->QHi
open Go renaming cell_later->QFa
open Go.Builtin renaming copy_->QAh,clear_->QAe
open Go.Value renaming ownBlock->QCi,slice->QFv,slice.injEq->QGx
open Go.World renaming frozen?->QHj,frozen?_of_block->QDx,setCell->QDw,cell?_setCell_same->QDz,frozen?_setCell->QEa,cell?_of_block->QEc
open List renaming drop->QHk,drop_take->QHl,mem_range->QHm,append_nil->QEm,length_set->QAo,mem_append->QCn,take_append->QCr,take_length->QHn,take_add_one->QEq,getElem?_drop->QAk,findIdx_getElem->QHo,length_replicate->QHp,take_of_length_le->QCw,length_range->QHq,drop_drop->QHr,take_take->QGf,mem_cons_of_mem->QDg,range->QAr,take_append_drop->QHc,flatMap_cons->QDh,drop_eq_getElem_cons->QHd,mem_cons_self->QDa,eq_nil_of_length_eq_zero->QHa,getElem?_append_left->QBg,getElem?_append_right->QBe,length_cons->QAs,flatMap_append->QHe,replicate->QAw,length_take->QBf
open Nat renaming zero_min->QHs,zero_mul->QHt,add_zero->QBl,zero_add->QDk,add_mul->QBi,add_sub_cancel_left->QHf,min_eq_left->QEx,mul_le_mul_right->QEy
open Option renaming some.injEq->QCf
namespace Go.Proofs.YtgdcjccbdmcebaaGreatDoor
open Tryz
open Go.RowKit
attribute [local go_sem ↓] Go.wp_at_zero Go.wp_at_succ
variable {e e':Ab}{w wr:World}{k i c n B g P B0 j:Nat}{ys xs:List Ba}{a:Option Addr}{id st:Int}{t:Tm}{l:List Tm}{ob:Option Nat}{f:AO->AO}
structure Ds (w:World)(P B:Nat)(a:Option Addr)(n c:Nat)(f k:Int)(ys:List Ba):Prop where
 c0:w.cell? ⟨P,8,none⟩=some (.slice a n c)
 c1:w.cell? ⟨P,9,none⟩=some (.int .i64 f)
 c2:w.cell? ⟨P,10,none⟩=some (.int .i64 k)
 fz:∀o,w.frozen? ⟨P,o,none⟩=false
 row:w.ownsRow B 274 2 (.slice a n c) n (ys.flatMap AX)
 len:ys.length=n
 pb:P<B
 bs:B<=w.heap.size
theorem FV.q0 {first:Nat}(h:FV w P B a n c first ys xs):Ds w P B a n c first xs.length ys:=⟨h.c0,h.c1,h.c2,h.fz,h.row,h.len,h.pb,h.bs⟩
theorem Ds.toQ {first:Nat}{f k:Int}(h:Ds w P B a n c f k ys)(hf:f=first)(hk:k=(xs.length:Int))(b:Bt ys first xs)(hn:n<=1000):FV w P B a n c first ys xs:=⟨h.c0,by rw[<-hf];exact h.c1,by rw[<-hk];exact h.c2,h.fz,h.row,h.len,b,hn,h.pb,h.bs⟩
theorem Ds.below {w':World}{f k:Int}(h:Ds w P B a n c f k ys)(hb:ZY w w'):Ds w' P B a n c f k ys:=by
 have b:P<w.heap.size:=Zy h.pb h.bs;exact⟨(QEc (a:=⟨P,8,none⟩) (hb.block P b)).trans h.c0,(QEc (a:=⟨P,9,none⟩) (hb.block P b)).trans h.c1,(QEc (a:=⟨P,10,none⟩) (hb.block P b)).trans h.c2,fun o=>(QDx (a:=⟨P,o,none⟩) (hb.block P b)).trans (h.fz o),Zak h.row hb,h.len,h.pb,Zv h.bs hb.size⟩
theorem Ds.KH {f k:Int}(h:Ds w P B a n c f k ys)(v:Int):Ds (w.setCell ⟨P,9,none⟩ (.int .i64 v)) P B a n c v k ys :=
 ⟨(Zac w P 9 8 _ (by decide)).trans h.c0,QDz _ _ _ h.c1,(Zac w P 9 10 _ (by decide)).trans h.c2,fun o=>(QEa _ _ _ _).trans (h.fz o),ownsRow_setCell_below h.row h.pb _,h.len,h.pb,by simpa[QDw] using h.bs⟩
theorem Ds.WH {f k:Int}(h:Ds w P B a n c f k ys)(v:Int):Ds (w.setCell ⟨P,10,none⟩ (.int .i64 v)) P B a n c f v ys :=
 ⟨(Zac w P 10 8 _ (by decide)).trans h.c0,(Zac w P 10 9 _ (by decide)).trans h.c1,QDz _ _ _ h.c2,fun o=>(QEa _ _ _ _).trans (h.fz o),ownsRow_setCell_below h.row h.pb _,h.len,h.pb,by simpa[QDw] using h.bs⟩
theorem RF.OY {x:World}{lo hi:Nat}(h:RF w x P ob lo hi)(o:Nat)(v:Value)(hg:w.heap.size<=g)(m:g≠P):RF w (x.setCell ⟨g,o,none⟩ v) P ob lo hi :=
 ⟨h.os,h.tape,h.output,by simpa[QDw] using h.size,fun k hk a b=>(Zl x ⟨g,o,none⟩ v k (by show k≠g;omega)).trans (h.block k hk a b),fun hp d p=>(QEc (a:=⟨P,d,none⟩) (Zl x ⟨g,o,none⟩ v P (Ne.symm m))).trans (h.off hp d p),fun hp d=>(QEa _ _ _ _).trans (h.AD hp d)⟩
theorem RF.drewTR {x:World}{lo hi:Nat}(h:RF w x P ob lo hi):RF w x.drew P ob lo hi:=⟨h.os,h.tape,h.output,h.size,h.block,h.off,h.AD⟩
theorem Ds.Nl {f k:Int}(h:Ds w P B a n c f k ys)(o:Nat)(v:Value)(hg:g≠P)(p:∀z,(QFv a n c).ownBlock=some z->z≠g):Ds (w.setCell ⟨g,o,none⟩ v) P B a n c f k ys:=by
 have hb:∀j,j≠g->(w.setCell ⟨g,o,none⟩ v).heap[j]? =w.heap[j]? :=fun j m=>Zl w ⟨g,o,none⟩ v j m;refine⟨(QEc (a:=⟨P,8,none⟩) (hb P (Ne.symm hg))).trans h.c0,(QEc (a:=⟨P,9,none⟩) (hb P (Ne.symm hg))).trans h.c1,(QEc (a:=⟨P,10,none⟩) (hb P (Ne.symm hg))).trans h.c2,fun r=>(QEa _ _ _ _).trans (h.fz r),⟨h.row.1,?_⟩,h.len,h.pb,by simpa[QDw] using h.bs⟩;rcases h.row.2 with b | ⟨z,cap,cur,b,q,hh,d⟩
 .exact Zu b
 .exact Zj ⟨z,cap,cur,b,q,(hb z (p z (by rw[b];rfl))).trans hh,d⟩
theorem Ds.setRow {f k:Int}(h:Ds w P B (some ⟨g,0,none⟩) n c f k ys)(p:Nat)(b:List Ba)(hp:p+b.length<=n) :
  Ds (w.setCells g (p * 2) (b.flatMap AX)) P B (some ⟨g,0,none⟩) n c f k (ys.take p++b++ys.drop (p+b.length))/\RF w (w.setCells g (p * 2) (b.flatMap AX)) P (some g) 8 11:=by
 have r:g≠P:=by
  have:=(h.row.lt g rfl).1;have:=h.pb;omega
 have u:∀o,(w.setCells g (p * 2) (b.flatMap AX)).cell? ⟨P,o,none⟩=w.cell? ⟨P,o,none⟩:=fun o=>QEc (a:=⟨P,o,none⟩) (Zap g P (Ne.symm r) _ _ _);have q:∀o,(w.setCells g (p * 2) (b.flatMap AX)).frozen? ⟨P,o,none⟩=w.frozen? ⟨P,o,none⟩:=fun o=>QDx (a:=⟨P,o,none⟩) (Zap g P (Ne.symm r) _ _ _);obtain⟨s1,s2,s3,G⟩:=Zbu w g (p * 2) (b.flatMap AX);have d:=Zaq b;have hlen:=h.len
 have s:(w.setCells g (p * 2) (b.flatMap AX)).ownsRow B 274 2 (.slice (some ⟨g,0,none⟩) n c) n ((ys.take p++b++ys.drop (p+b.length)).flatMap AX):=by
  rcases h.row.2 with⟨v,_⟩ | ⟨z,cap,cur,v,hg,hh,x,A,H,C⟩
  .cases v
  .obtain⟨rfl,rfl⟩:g=z/\c=cap:=by simpa using v
   have E:p * 2+b.length * 2<=n * 2:=by rw[<-QBi];exact QEy _ hp
   have D:n * 2<=c * 2:=QEy _ x;obtain⟨m,k1,k2,k3⟩:=Zcm g 274 (b.flatMap AX) (p * 2) w cur hh (by omega);refine⟨by rw[Zaq];simp;omega,Zj ⟨g,c,m,rfl,hg,k1,x,A,by omega,?_⟩⟩
   have e0:(ys.take p++b++ys.drop (p+b.length)).flatMap AX=(ys.flatMap AX).take (p * 2)++b.flatMap AX++(ys.flatMap AX).drop (p * 2+b.length * 2):=by
    rw[QHe,QHe,DN,<-QBi,Fa]
   rw[e0,<-C,k3,d];have y:(cur.toList.take (n * 2)).take (p * 2)=cur.toList.take (p * 2):=by rw[QGf,QEx (by omega)]
   rw[y,QCr,QCw (by rw[ZX,QBf,QGr,d];omega),ZX,QBf,QGr,d,QEx (by omega),QHl]
 refine⟨⟨(u 8).trans h.c0,(u 9).trans h.c1,(u 10).trans h.c2,fun o=>(q o).trans (h.fz o),s,by simp;omega,h.pb,by rw[s1];exact h.bs⟩,⟨s2,s3,G,by rw[s1];exact Zx _,fun k _ _ F=>Zap g k (fun e=>F (by rw[e])) _ _ _,fun _ o _=>u o,fun _ o=>q o⟩⟩
theorem My (w:World)(g p m c:Nat)(cur:Array Value)(hw:w.heap[g]? =some (.cells cur 274 (0,0)))(b:(p+m) * 2<=cur.size)(hm:0<m)(ty:TypeId) :
  (QAe #[152] ty #[.slice (some ⟨g,p * 2,none⟩) m c]).run prog w=.ok (.tuple #[]) (w.setCells g (p * 2) ((QAw m (⟨0,0⟩:Ba)).flatMap AX)):=by
 have hl:=Zaq (QAw m (⟨0,0⟩:Ba));rw[QHp] at hl;rw[QBi] at b;refine Fg w 152 274 ty (.agg #[.int .u64 0,.int .i64 0]) underlying152 zeroTR m _ (LZ m) (RG _) g (p * 2) c hm (fun j d=> ?_) (fun j _=> ?_)
 .unfold World.cell?
  rw[hw];simp only[Array.getElem?_eq_getElem (show p * 2+j<cur.size by omega)]
  rfl
 .simp[QHj,hw]
theorem Jp (ys:List Ba)(p:Nat)(hp:p<ys.length):ys.take p++QAw 1 (⟨0,0⟩:Ba)++ys.drop (p+(QAw 1 (⟨0,0⟩:Ba)).length)=ys.set p (⟨0,0⟩:Ba):=by
 rw[List.set_eq_take_append_cons_drop,if_pos hp];simp
theorem Tw (w:World)(P B n c first:Nat)(a:Option Addr)(ys xs:List Ba)(x:Ba)(h:FV w P B a n c first ys (x::xs)) :
  Calls prog 200 #[.pointer (some ⟨P,8,none⟩)] w fun e w'=>e=.returned (.tuple #[.agg #[.int .u64 x.run,.int .i64 x.node],.bool true])/\∃F ck,FV w' P B a n c F ck xs/\RF w w' P (QFv a n c).ownBlock 8 11:=by
 have hlen:=h.len;have N:=h.Br;have bf:=h.ring.Br;rw[QAs] at bf;have cu:0<n:=by omega
 have W:first<n:=by
  rcases h.ring.Ee with h1 | ⟨_,U⟩
  .omega
  .subst U;simp at hlen;omega
 obtain⟨g,cur,rfl,hg,J,V,X,au⟩:∃g cur,a=some ⟨g,0,none⟩/\B<=g/\n<=c/\c<=maxLen/\w.heap[g]? =some (.cells cur 274 (0,0))/\cur.size=c * 2:=by
  rcases h.row.2 with⟨U,h3⟩ | ⟨g,cap,cur,U,hg,hh,h3,h4,h5,_⟩
  .simp only[QGx] at U
   omega
  .obtain⟨rfl,_,rfl⟩:a=some ⟨g,0,none⟩/\n=n/\c=cap:=by simpa using U
   exact⟨g,cur,rfl,hg,h3,h4,hh,h5⟩
 have V:c<=9223372036854775807:=V;obtain⟨M,C⟩:∃M,M=w.alloc (.cells #[.int .u64 0,.int .i64 0] 274):=⟨_,rfl⟩;obtain⟨rb,s⟩:∃rb,rb=w.heap.size:=⟨_,rfl⟩;have H:ZY w M:=by rw[C];exact ZV.alloc ZU _
 obtain⟨S,T⟩:=(show _/\_ from C▸Zcy w 0 0);rw[<-s] at S T;have z0:∀j,M.frozen? ⟨rb,j,none⟩=false:=fun j=>by unfold QHj;rw[C,s,heap_alloc_new];rfl
 have ay:g<w.heap.size:=(Array.getElem?_eq_some_iff.1 X).1;have Y:=h.below H;have O:M.heap[g]? =some (.cells cur 274 (0,0)):=(H.block g ay).trans X;have c0:=Y.c0;have c1:=Y.c1;have c2:=Y.c2;obtain⟨m,hm⟩:∃m,m=xs.length:=⟨_,rfl⟩;rw[QAs,<-hm] at c2;have aw:=EL M P (m+1) c2;obtain⟨hx,R⟩:=h.ring.pop (⟨0,0⟩:Ba)
 have r:∀j u,(AX x)[j]? =some u->M.cell? ⟨g,first * 2+j,none⟩=some u:=by
  intro j u hj;have bp:j<2:=by have:=(List.getElem?_eq_some_iff.1 hj).1;rwa[Zbp] at this
  have cz:first * 2+2<=n * 2:=by have:=QEy 2 (show first+1<=n by omega);omega
  rw[Y.row.cellAt _ (by omega)]
  have e5:ys.flatMap AX=(ys.take first).flatMap AX++(AX x++(ys.drop (first+1)).flatMap AX):=by
   conv=>lhs;rw[<-QHc first ys,QHd (by omega)]
   rw[QHe,QDh];rw[ZZ (by omega)] at hx;simp only[QCf] at hx;rw[hx]
  rw[e5,QBe (by rw[Zaq,QBf,QEx (by omega)];omega),Zaq,QBf,QEx (by omega),QHf,QBg (by rw[Zbp];exact bp)];exact hj
 have al:n * 2<=c * 2:=QEy _ J;have ax:(first+1) * 2<=n * 2:=QEy _ (by omega);have Z:=Zz (Zq R (Zq hm (Zq hlen N)));have y:=Zz (Zq H (Zq s C));have HQ:=Zz Y.q0;have HE:=Zz aw;have q:=Zz (Zq O (Zq (show (first+1) * 2<=cur.size by rw[au];exact Zv ax al) (Zq ay h.pb)));have t0:=r 0 _ rfl;have t1:=r 1 _ rfl
 try simp only[QBl] at t0 t1
 have e1:wrap64 ((first:Int)+1)=((first+1:Nat):Int):=by unfold wrap64;omega
 have e3:wrap64 ((m+1:Nat) - 1:Int)=(m:Int):=by unfold wrap64;omega
 have g0:decide (m+1=0)=false:=decide_eq_false (by omega);have cr:first+1<=c:=Zv (Nat.succ_le_of_lt W) J
 have cq:¬c=first:=fun e=>Nat.lt_irrefl _ (Zy W (e▸J))
 clear h Y hx R r hm hlen N bf X O H C s aw al ax au
 go_enter func200,ntmps200
 go_upto_region 1 with fail
 rw[<-y.o.2.1,<-y.o.2.2]
 go_upto_region 3 with (go_at_call 199;refine HE.o.mono ?_;rintro e w9 ⟨rfl,br⟩;rw[br])
 go_region
 obtain⟨w1,L⟩:∃w1,w1=M.drew:=⟨_,rfl⟩;rw[<-L];have I:ZY M w1:=by rw[L];exact ZV.drew
 have bj:=Zz (HQ.o.below I);have ae:=Zz ((I.block g (Zaa q.o.1)).trans q.o.1);have A:=Zz I;have t0:=QFa A.o t0;have t1:=QFa A.o t1;have S:=QFa A.o S;have T:=QFa A.o T;have z1:∀j,w1.frozen? ⟨rb,j,none⟩=false:=fun j=>by rw[L];exact z0 j
 have da:=z1 0;have db:=z1 1;obtain⟨E,d⟩:∃E,E=(w1.setCell ⟨rb,0,none⟩ (.int .u64 x.run)).setCell ⟨rb,1,none⟩ (.int .i64 x.node):=⟨_,rfl⟩;have s:=y.o.2.1;have h1:ZY w w1:=y.o.1.trans' A.o;have aj:ZY w E:=by rw[d];exact (h1.setCell (p:=⟨rb,0,none⟩) (by show _<=rb;omega) _).setCell (p:=⟨rb,1,none⟩) (by show _<=rb;omega) _
 have ag:Ds E P B (some ⟨g,0,none⟩) n c first (m+1:Nat) ys:=by
  have hQ:=bj.o;have bw:=Z.o.2.1;rw[QAs,<-bw] at hQ;rw[d];exact (hQ.Nl (g:=rb) 0 _ (by have:=q.o.2.2;have:=hQ.bs;omega) (by intro z hz;simp only[QCi,QCf] at hz;omega)).Nl (g:=rb) 1 _ (by have:=q.o.2.2;have:=hQ.bs;omega) (by intro z hz;simp only[QCi,QCf] at hz;omega)
 have Q:E.heap[g]? =some (.cells cur 274 (0,0)):=by rw[d,Zl _ _ _ _ (by simp;omega),Zl _ _ _ _ (by simp;omega)];exact ae.o
 have S:E.cell? ⟨rb,0,none⟩=some (.int .u64 x.run):=by rw[d,Zac _ rb 1 0 _ (by decide)];exact QDz _ _ _ S
 have T:E.cell? ⟨rb,1,none⟩=some (.int .i64 x.node):=by rw[d];exact QDz _ _ _ (by rw[Zac _ rb 0 1 _ (by decide)];exact T)
 have ar:=fun ty=>My E g first 1 (c - first) cur Q q.o.2.1 (by omega) ty
 have bo:=Zaq (QAw 1 (⟨0,0⟩:Ba));have b:=ag.setRow first (QAw 1 (⟨0,0⟩:Ba)) (by simp;omega)
 rw[Jp ys first (by rw[Z.o.2.2.1];exact W)] at b
 generalize D:E.setCells g (first * 2) ((QAw 1 (⟨0,0⟩:Ba)).flatMap AX)=w3 at *
 have S:w3.cell? ⟨rb,0,none⟩=some (.int .u64 x.run):=by rw[<-D];exact (QEc (a:=⟨rb,0,none⟩) (Zap g rb (by omega) _ _ _)).trans S
 have T:w3.cell? ⟨rb,1,none⟩=some (.int .i64 x.node):=by rw[<-D];exact (QEc (a:=⟨rb,1,none⟩) (Zap g rb (by omega) _ _ _)).trans T
 have z3:∀j,w3.frozen? ⟨rb,j,none⟩=false:=fun j=>by rw[<-D,QDx (a:=⟨rb,j,none⟩) (Zap g rb (by omega) _ _ _),d,QEa,QEa];exact z1 j
 have dc:=z3 0;have z31:=z3 1;clear z0 z1 z3;have G:¬P=rb:=by have:=q.o.2.2;have:=HQ.o.bs;omega
 have c0:=b.1.c0;have c1:=b.1.c1;have c2:=b.1.c2;have f1:=b.1.fz 9;have f2:=b.1.fz 10;have HS:=Zz (Zq b (Zq aj D))
 try simp only[Nat.mul_one] at ar
 rw[d] at ar;have e2:((first+1:Nat):Int).tmod (n:Int)=(((first+1) % n:Nat):Int):=rfl;obtain⟨pos,K⟩:∃pos,pos=(first+1) % n:=⟨_,rfl⟩;have cm:((first:Int)+1) % (n:Int)=(pos:Int):=by rw[K];norm_cast
 have bh:=Zz K;have cy:¬((n:Int)=0):=by omega
 rw[<-K] at e2;have e3:wrap64 (m:Int)=(m:Int):=by have:=Z.o.1.Br;have:=Z.o.2.1;have:=Z.o.2.2;simp only[QAo] at *;unfold wrap64;omega
 clear b ag Q aj d I L h1 s D K bo V J hg
 go_upto_region 6 with fail
 go_region
 all_goals
  go_wp2_with fail
  (try simp only[Exit.inBlock,Exit.then])
  refine bodyPost_ret (v:=.tuple #[.agg #[.int .u64 x.run,.int .i64 x.node],.bool true]) (by rw[results_cell_tmp rfl];go_simp) rfl ?_;obtain⟨⟨q1,q2⟩,q3,q4⟩:=HS.o;obtain⟨r1,r2,r3,r4⟩:=Z.o;have hp:pos=(first+1) % ys.length:=by rw[r3];exact bh.o
  have hw:w.heap.size<=E.heap.size:=q3.size;have h1:=(q1.KH pos).WH m;have k1:RF w w3 P (some g) 8 11:=(RF.Ae P _ 8 11 q3).trans q2 (fun k hk=>Zu hk);have k2:=(k1.trans (RF.Bv w3 P 9 (some g) (.int .i64 pos) (lo:=8) (hi:=11) (by decide)) (fun k hk=>Zu hk)).trans (RF.Bv _ P 10 (some g) (.int .i64 m) (lo:=8) (hi:=11) (by decide)) (fun k hk=>Zu hk);have hr:w.heap.size<=rb:=by have:=y.o.2.1;omega
  have az:∀z,(QFv (some ⟨g,0,none⟩) n c).ownBlock=some z->z≠rb:=by intro z hz;simp only[QCi,QCf] at hz;have:=q.o.2.2;omega
  have U:=(h1.Nl (g:=rb) 0 (.int .u64 x.run) (fun e=>G e.symm) az).Nl (g:=rb) 1 (.int .i64 x.node) (fun e=>G e.symm) az;have k3:=(k2.OY (g:=rb) 0 (.int .u64 x.run) hr (fun e=>G e.symm)).OY (g:=rb) 1 (.int .i64 x.node) hr (fun e=>G e.symm);exact⟨rfl,pos,_,(U.below (ZV.drew)).toQ (first:=pos) rfl (by rw[r2]) (by rw[hp];exact r1) r4,k3.drewTR⟩
structure EC (w:World)(bx rb:Nat)(id:Int):Prop where
 b:w.cell? ⟨bx,0,none⟩=some (.pointer (some ⟨rb,0,none⟩))
 r:w.cell? ⟨rb,0,none⟩=some (.int .u64 id)
 bl:bx<w.heap.size
 rl:rb<w.heap.size
theorem EC.below {w':World}{d rb:Nat}(h:EC w d rb id)(hb:Below B w w')(m:d<B)(o:rb<B):EC w' d rb id :=
 ⟨(QEc (a:=⟨d,0,none⟩) (hb.block d m)).trans h.b,(QEc (a:=⟨rb,0,none⟩) (hb.block rb o)).trans h.r,Zy h.bl hb.size,Zy h.rl hb.size⟩
theorem Oj (w:World)(q rb:Nat)(id r nd:Int)(h:EC w q rb id) :
  Calls prog 230 #[.agg #[.int .u64 r,.int .i64 nd],.pointer (some ⟨q,0,none⟩)] w fun e w'=>e=.returned (.bool (decide (r=id)))/\ZY w w':=by
 obtain⟨u,m⟩:∃u,u=w.alloc (.cells #[.int .u64 r,.int .i64 nd] 274):=⟨_,rfl⟩;obtain⟨v,p⟩:∃v,v=w.heap.size:=⟨_,rfl⟩;have d:ZY w u:=by rw[m];exact ZV.alloc ZU _
 obtain⟨z0,x⟩:=(show _/\_ from m▸Zcy w r nd);rw[<-p] at z0 x;have y:=(QEc (a:=⟨q,0,none⟩) (d.block q h.bl)).trans h.b;have r0:=(QEc (a:=⟨rb,0,none⟩) (d.block rb h.rl)).trans h.r;have s:=Zz (Zq d (Zq p m));clear h d m p
 go_enter func230,ntmps230
 go_upto_region 1 with fail
 rw[<-s.o.2.1,<-s.o.2.2]
 go_quiet (fail)
 go_wp2_with fail
 go_ret
 exact⟨by first | rfl | (congr 2;by_cases e:r=id<;>simp[e]),s.o.1.trans' ⟨rfl,rfl,rfl,Zx _,fun _ _=>rfl⟩⟩
def Zc5 (l:List Ba)(id:Int):Nat:=l.findIdx (fun p=>p.run == id)
def SU (l:List Ba)(id:Int):Int:=if Zc5 l id<l.length then (Zc5 l id:Int) else -1
theorem Vi (w:World)(B0 B:Nat)(a:Option Addr)(n c I rb:Nat)(id:Int)(xs:List Ba)(h:w.ownsRow B 274 2 (.slice a n c) n (xs.flatMap AX))(hn:xs.length=n)(T:n<=1000)(hg:EC w I rb id) :
  Calls prog 286 #[.slice a n c,.func (.func 230) #[] #[.pointer (some ⟨I,0,none⟩)]] w fun e w'=>e=.returned (.int .i64 (SU xs id))/\ZY w w':=by
 have G:=Zz (Zq h (Zq hn hg));have U:=Zz (Zk w.heap.size w);clear h hn hg
 go_enter func286,ntmps286
 go_wp2_with fail
 go_loopw [8] (fun Q wr=>∃i:Nat,Q=.int .i64 i/\i<=n/\ZY w wr/\∀j,j<i->(xs.getD j ⟨0,0⟩).run≠id) (fun Q _=>n - (intOf Q).toNat)
 case atStart=>exact⟨0,rfl,by omega,U.o,by omega⟩
 case round =>
  obtain⟨i,rfl,hi,A,E⟩:=hrel;have d:=Zz A;have y:=Zz E;clear E A;by_cases S:i<n
  .obtain⟨M,hn,hg⟩:=G.o
   obtain⟨g,cur,rfl,z,Y,K⟩:∃g cur,a=some ⟨g,0,none⟩/\w.heap[g]? =some (.cells cur 274 (0,0))/\n<=c/\c<=maxLen:=by
    rcases M.2 with⟨J,_⟩ | ⟨g,cap,cur,J,_,hh,W,X,_⟩
    .simp only[QGx] at J;omega
    .obtain⟨rfl,_,rfl⟩:a=some ⟨g,0,none⟩/\n=n/\c=cap:=by simpa using J
     exact⟨g,cur,rfl,hh,W,X⟩
   obtain⟨x,N⟩:∃x,x=xs.getD i ⟨0,0⟩:=⟨_,rfl⟩;have s:xs[i]? =some x:=by rw[N,ZQ,ZZ (by omega)];rfl
   have b:∀j u,(AX x)[j]? =some u->w.cell? ⟨g,i * 2+j,none⟩=some u:=by
    intro j u D;have L:j<2:=by have:=(List.getElem?_eq_some_iff.1 D).1;rwa[Zbp] at this
    rw[M.cellAt _ (by omega)]
    have V:xs.flatMap AX=(xs.take i).flatMap AX++(AX x++(xs.drop (i+1)).flatMap AX):=by
     conv=>lhs;rw[<-QHc i xs,QHd (by omega)]
     rw[QHe,QDh];rw[ZZ (by omega)] at s;simp only[QCf] at s;rw[s]
    rw[V,QBe (by rw[Zaq,QBf,QEx (by omega)];omega),Zaq,QBf,QEx (by omega),QHf,QBg (by rw[Zbp];exact L)];exact D
   have t0:=(QEc (a:=⟨g,i * 2+0,none⟩) (d.o.block g (Zaa z))).trans (b 0 _ rfl);have t1:=(QEc (a:=⟨g,i * 2+1,none⟩) (d.o.block g (Zaa z))).trans (b 1 _ rfl);simp only[QBl] at t0;have F:=Zz (Oj wr I rb id x.run x.node (hg.below d.o hg.bl hg.rl));have R:=Zz N;have i1:(i:Int)<(n:Int):=by omega
   clear z K b s N M hn hg;by_cases e:x.run=id
   .have C:decide (x.run=id)=true:=decide_eq_true e
    rw[C] at F;have H:=Zz e;clear e C;go_wp2_with (go_at_call 230;refine F.o.mono ?_;rintro e Z ⟨rfl,m⟩;have v:=Zz m;clear m)
    go_ret
    have hf:Zc5 xs id=i:=by
     have r:i<xs.length:=by rw[G.o.2.1];exact S
     have O:xs[i]=x:=by rw[R.o,ZQ,ZZ r];rfl
     unfold Zc5;rw[List.findIdx_eq r];refine⟨by rw[O];simpa using H.o,fun j D=> ?_⟩;have:=y.o j D;rw[ZQ,ZZ (by omega)] at this;simpa using this
    refine⟨?_,d.o.trans' v.o⟩;unfold SU;rw[hf,if_pos (by rw[G.o.2.1];exact S)]
    rfl
   .have C:decide (x.run=id)=false:=decide_eq_false e
    rw[C] at F;have H:=Zz e;clear e C;go_wp2_with (go_at_call 230;refine F.o.mono ?_;rintro e Z ⟨rfl,m⟩;have v:=Zz m;clear m)
    go_roundw
    case rel=>exact⟨i+1,by go_num,by omega,d.o.trans' v.o,fun j D=>by
     by_cases q:j=i
     .subst q;rw[<-R.o];exact H.o
     .exact y.o j (by omega)⟩
    case measure=>simp[intOf];omega
  .have hf:¬Zc5 xs id<xs.length:=by
    intro r;have h:=QHo (p:=fun p:Ba=>p.run == id) (w:=r);have hl:=y.o (Zc5 xs id) (by have:=G.o.2.1;omega);rw[ZQ,ZZ r] at hl;exact hl (eq_of_beq h)
   have HF:=Zz hf;have i1:¬(i:Int)<(n:Int):=by omega
   clear hf;go_wp2_with fail
   go_ret
   refine⟨?_,d.o⟩;unfold SU;rw[if_neg HF.o]
   rfl
def kept (l:List Ba)(id:Int)(k:Nat):List Ba:=(l.take k).filter (fun p=> !(p.run == id))
theorem Ii (l:List Ba)(id:Int)(hk:k<l.length):kept l id (k+1)=kept l id k++(if (l.getD k ⟨0,0⟩).run=id then [] else [l.getD k ⟨0,0⟩]):=by
 unfold kept;rw[QEq,ZZ hk,Option.toList_some,List.filter_append,ZQ,ZZ hk]
 congr 1
 by_cases e:(l[k]).run=id
 .simp[e]
 .simp[e]
theorem JV (l:List Ba)(id:Int)(hk:k<=Zc5 l id):kept l id k=l.take k:=by
 unfold kept;rw[List.filter_eq_self];intro p hp;obtain⟨j,b,rfl⟩:=List.getElem_of_mem hp;rw[QBf] at b;have:=List.not_of_lt_findIdx (p:=fun p:Ba=>p.run == id) (xs:=l) (i:=j) (by unfold Zc5 at hk;omega);rw[List.getElem_take];simpa using this
def Zd2 (l:List Ba)(id:Int):List Ba:=l.filter (fun p=> !(p.run == id))
theorem Ov (l:List Ba)(id:Int):kept l id l.length=Zd2 l id:=by unfold kept Zd2;rw[QHn]
theorem QB {m:Nat}(h:w.ownsRow B 274 2 (.slice (some ⟨g,0,none⟩) n c) n (ys.flatMap AX))(hl:ys.length=n)(hm:m<=n):w.ownsRow B 274 2 (.slice (some ⟨g,0,none⟩) m c) m ((ys.take m).flatMap AX):=by
 rcases h.2 with⟨b,_⟩ | ⟨d,cap,cur,b,hg,hh,r,o,p,q⟩
 .cases b
 .obtain⟨rfl,rfl⟩:g=d/\c=cap:=by simpa using b
  refine⟨by rw[Zaq,QBf];omega,Zj ⟨g,c,cur,rfl,hg,hh,by omega,o,p,?_⟩⟩;rw[<-DN,<-q,QGf,QEx (QEy _ hm)]
theorem QA {p:Nat}(h:w.ownsRow B 274 2 (.slice (some ⟨g,0,none⟩) n c) n (ys.flatMap AX))(hl:ys.length=n)(b:List Ba)(hp:p+b.length<=n):(w.setCells g (p * 2) (b.flatMap AX)).ownsRow B 274 2 (.slice (some ⟨g,0,none⟩) n c) n ((ys.take p++b++ys.drop (p+b.length)).flatMap AX):=by
 have d:=Zaq b;rcases h.2 with⟨o,_⟩ | ⟨s,cap,cur,o,hg,hh,q,u,z,v⟩
 .cases o
 .obtain⟨rfl,rfl⟩:g=s/\c=cap:=by simpa using o
  have y:p * 2+b.length * 2<=n * 2:=by rw[<-QBi];exact QEy _ hp
  have x:n * 2<=c * 2:=QEy _ q;obtain⟨m,k1,k2,k3⟩:=Zcm g 274 (b.flatMap AX) (p * 2) w cur hh (by omega);refine⟨by rw[Zaq];simp;omega,Zj ⟨g,c,m,rfl,hg,k1,q,u,by omega,?_⟩⟩
  have e0:(ys.take p++b++ys.drop (p+b.length)).flatMap AX=(ys.flatMap AX).take (p * 2)++b.flatMap AX++(ys.flatMap AX).drop (p * 2+b.length * 2):=by
   rw[QHe,QHe,DN,<-QBi,Fa]
  rw[e0,<-v,k3,d];have r:(cur.toList.take (n * 2)).take (p * 2)=cur.toList.take (p * 2):=by rw[QGf,QEx (by omega)]
  rw[r,QCr,QCw (by rw[ZX,QBf,QGr,d];omega),ZX,QBf,QGr,d,QEx (by omega),QHl]
structure Fx (w wr:World)(B0 g n c:Nat)(xs:List Ba)(id:Int)(i j:Nat):Prop where
 row:∃ys:List Ba,ys.length=n/\wr.ownsRow B0 274 2 (.slice (some ⟨g,0,none⟩) n c) n (ys.flatMap AX)/\ys.take i=kept xs id j/\ys.drop j=xs.drop j
 Db:Below B0 w wr
 ij:i<j
 jn:j<=n
 il:i=(kept xs id j).length
theorem Fx.below {b:World}(h:Fx w wr B0 g n c xs id i j)(hb:ZY wr b)(d:B0<=wr.heap.size):Fx w b B0 g n c xs id i j:=by
 obtain⟨⟨ys,r,s,u,v⟩,m,o,p,q⟩:=h;exact⟨⟨ys,r,Zak s hb,u,v⟩,m.trans (hb.mono d),o,p,q⟩
theorem Lt (p:w.ownsRow B 274 2 (.slice (some ⟨g,0,none⟩) n c) n (ys.flatMap AX))(hn:ys.length=n)(hi:i<n):w.cell? ⟨g,i * 2,none⟩=some (.int .u64 (ys.getD i ⟨0,0⟩).run)/\w.cell? ⟨g,i * 2+1,none⟩=some (.int .i64 (ys.getD i ⟨0,0⟩).node):=by
 have h:ys.getD i ⟨0,0⟩=ys[i]'(by omega):=by rw[ZQ,ZZ (by omega)];rfl
 have b:∀j u,(AX (ys.getD i ⟨0,0⟩))[j]? =some u->w.cell? ⟨g,i * 2+j,none⟩=some u:=by
  intro j u m;have d:j<2:=by have:=(List.getElem?_eq_some_iff.1 m).1;rwa[Zbp] at this
  rw[p.cellAt _ (by omega)]
  have o:ys.flatMap AX=(ys.take i).flatMap AX++(AX (ys.getD i ⟨0,0⟩)++(ys.drop (i+1)).flatMap AX):=by
   conv=>lhs;rw[<-QHc i ys,QHd (by omega)]
   rw[QHe,QDh,h]
  rw[o,QBe (by rw[Zaq,QBf,QEx (by omega)];omega),Zaq,QBf,QEx (by omega),QHf,QBg (by rw[Zbp];exact d)];exact m
 exact⟨b 0 _ rfl,b 1 _ rfl⟩
theorem Fx.cell (h:Fx w wr B0 g n c xs id i j)(hn:xs.length=n)(d:j<n):wr.cell? ⟨g,j * 2,none⟩=some (.int .u64 (xs.getD j ⟨0,0⟩).run)/\wr.cell? ⟨g,j * 2+1,none⟩=some (.int .i64 (xs.getD j ⟨0,0⟩).node):=by
 obtain⟨⟨ys,m,o,q,p⟩,_⟩:=h;have:=Lt o m d
 have e:ys.getD j ⟨0,0⟩=xs.getD j ⟨0,0⟩:=by
  have b:(ys.drop j)[0]? =(xs.drop j)[0]? :=by rw[p]
  rw[QAk,QAk,QBl] at b;rw[ZQ,ZQ,b]
 rw[e] at this;exact this
theorem Fx.place (h:Fx w wr B0 g n c xs id i j):∃u v,wr.cell? ⟨g,i * 2,none⟩=some u/\wr.cell? ⟨g,i * 2+1,none⟩=some v/\wr.frozen? ⟨g,i * 2,none⟩=false/\wr.frozen? ⟨g,i * 2+1,none⟩=false:=by
 obtain⟨⟨ys,d,b,r,s⟩,m,o,p,q⟩:=h;obtain⟨c0,c1⟩:=Lt (i:=i) b d (by omega);exact⟨_,_,c0,c1,b.frozenAt _,b.frozenAt _⟩
theorem Fx.skip (h:Fx w wr B0 g n c xs id i j)(hn:xs.length=n)(u:j<n)(he:(xs.getD j ⟨0,0⟩).run=id):Fx w wr B0 g n c xs id i (j+1):=by
 obtain⟨⟨ys,m,o,p,q⟩,b,r,s,d⟩:=h;have hk:=Ii xs id (k:=j) (by omega);rw[if_pos he,QEm] at hk;refine⟨⟨ys,m,o,by rw[hk];exact p,?_⟩,b,by omega,by omega,by rw[hk];exact d⟩;have:=congrArg (QHk 1) q;rw[QHr,QHr] at this;exact this
theorem Fx.Ak (h:Fx w wr B0 g n c xs id i j)(hn:xs.length=n)(v:j<n)(he:(xs.getD j ⟨0,0⟩).run≠id)(hg:B0<=g) :
  Fx w (wr.setCells g (i * 2) (AX (xs.getD j ⟨0,0⟩))) B0 g n c xs id (i+1) (j+1):=by
 obtain⟨⟨ys,b,p,q,r⟩,d,s,u,m⟩:=h;have hk:=Ii xs id (k:=j) (by omega);rw[if_neg he] at hk;have o:=LY p b (show i<n by omega) (xs.getD j ⟨0,0⟩);refine⟨⟨ys.set i (xs.getD j ⟨0,0⟩),by rw[QAo];exact b,o,?_,?_⟩,Zdv d _ _ _ hg,by omega,by omega,by rw[hk,ZX,<-m];rfl⟩
 .rw[hk,<-q,QEq,List.take_set_of_le (by omega),List.getElem?_set_self (by omega)]
  rfl
 .rw[List.drop_set_of_lt (by omega)]
  have:=congrArg (QHk 1) r;rw[QHr,QHr] at this;exact this
theorem Fx.end_ (h:Fx w wr B0 g n c xs id i n)(hn:xs.length=n)(hg:B0<=g):i=(Zd2 xs id).length/\(wr.setCells g (i * 2) ((QAw (n - i) (⟨0,0⟩:Ba)).flatMap AX)).ownsRow B0 274 2 (.slice (some ⟨g,0,none⟩) i c) i ((Zd2 xs id).flatMap AX)/\Below B0 w (wr.setCells g (i * 2) ((QAw (n - i) (⟨0,0⟩:Ba)).flatMap AX)):=by
 obtain⟨⟨ys,r,s,m,x⟩,o,u,v,b⟩:=h;rw[<-hn,Ov] at m b;have q:=QA s r (p:=i) (QAw (n - i) (⟨0,0⟩:Ba)) (by simp;omega);have d:=QB q (by simp;omega) (show i<=n by omega);refine⟨b,?_,Zdv o _ _ _ hg⟩;rw[List.append_assoc,List.take_append_of_le_length (by rw[QBf];omega),QGf,Nat.min_self,m] at d;exact d
theorem NR (w:World)(B0:Nat)(a:Option Addr)(n c K rb:Nat)(id:Int)(xs:List Ba)(h:w.ownsRow B0 274 2 (.slice a n c) n (xs.flatMap AX))(hn:xs.length=n)(M:n<=1000)(hg:EC w K rb id)(Z:K<B0)(aj:rb<B0)(Y:B0<=w.heap.size) :
  Calls prog 273 #[.slice a n c,.func (.func 230) #[] #[.pointer (some ⟨K,0,none⟩)]] w fun e w'=>∃a' m c',e=.returned (.slice a' m c')/\m=(Zd2 xs id).length/\w'.ownsRow B0 274 2 (.slice a' m c') m ((Zd2 xs id).flatMap AX)/\Below B0 w w':=by
 have V:=Zz (Vi w B0 B0 a n c K rb id xs h hn M hg);have s:=Zz (Zq h (Zq hn (Zq hg (Zq Z (Zq aj Y)))));obtain⟨T,v⟩:∃T,T=SU xs id:=⟨_,rfl⟩;rw[<-v] at V;have HX:=Zz v;by_cases hf:Zc5 xs id<xs.length
 .have e:T=(Zc5 xs id:Int):=by rw[v];unfold SU;rw[if_pos hf]
  obtain⟨f,G⟩:∃f,f=Zc5 xs id:=⟨_,rfl⟩;rw[<-G] at e;subst e;have aw:f<n:=by omega
  obtain⟨g,cur,rfl,N,ax,H⟩:∃g cur,a=some ⟨g,0,none⟩/\w.heap[g]? =some (.cells cur 274 (0,0))/\n<=c/\B0<=g:=by
   rcases h.2 with⟨E,_⟩ | ⟨g,cap,cur,E,H,hh,X,h4,_⟩
   .simp only[QGx] at E;omega
   .obtain⟨rfl,_,rfl⟩:a=some ⟨g,0,none⟩/\n=n/\c=cap:=by simpa using E
    exact⟨g,cur,rfl,hh,X,H⟩
  have HF:=Zz (Zq G (Zq hf (Zq N H)));have e1:((f:Int) == -1)=false:=by simp
  have al:decide ((f:Int)= -1)=false:=decide_eq_false (by omega);clear h hn hg v G hf N
  go_enter func273,ntmps273
  go_wp2_with (go_at_call 286;refine V.o.mono ?_;rintro e w1 ⟨rfl,y⟩;have u:=Zz y;clear y)
  go_loopw [5,6] (fun iv jv wr=>∃i j:Nat,iv=.int .i64 i/\jv=.int .i64 j/\Fx w wr B0 g n c xs id i j/\w.heap.size<=wr.heap.size) (fun _ jv _=>n - (intOf jv).toNat)
  case atStart =>
   obtain⟨ho,hn,_⟩:=s.o;obtain⟨q1,C,Q,R⟩:=HF.o;have hk:=Ii xs id C
   have he:(xs.getD (Zc5 xs id) ⟨0,0⟩).run=id:=by
    rw[ZQ,ZZ C];exact eq_of_beq (QHo (p:=fun p:Ba=>p.run == id) (w:=C))
   rw[if_pos he,QEm,JV xs id ZU,<-q1] at hk;refine⟨f,f+1,rfl,rfl,⟨⟨xs,hn,Zak ho u.o,hk.symm,rfl⟩,u.o.mono (by have:=s.o.2.2.2.2.2;omega),by omega,by omega,by rw[hk,QBf];omega⟩,u.o.size⟩
  case round =>
   obtain⟨i,j,rfl,rfl,b,O⟩:=hrel;have HA:=Zz b;have q:=Zz O;clear O;by_cases hj:j<n
   .obtain⟨t0,t1⟩:=b.cell s.o.2.1 hj
    obtain⟨x,hx⟩:∃x,x=xs.getD j ⟨0,0⟩:=⟨_,rfl⟩;rw[<-hx] at t0 t1;obtain⟨vb,I⟩:∃vb,vb=wr.heap.size:=⟨_,rfl⟩;obtain⟨wa,z⟩:∃wa,wa=wr.alloc (.cells #[.int .u64 x.run,.int .i64 x.node] 274):=⟨_,rfl⟩;have F:ZY wr wa:=by rw[z];exact ZV.alloc ZU _
    obtain⟨z0,z1⟩:=(show _/\_ from z▸Zcy wr x.run x.node);rw[<-I] at z0 z1;have ay:vb<wa.heap.size:=by rw[z];simp;omega
    have ae:=b.ij;have D:=Zz (Zq F (Zq I (Zq z hx)));have S:=Zz (Oj wa K rb id x.run x.node ((s.o.2.2.1.below b.Db s.o.2.2.2.1 s.o.2.2.2.2.1).below F (by have:=s.o.2.2.2;have:=q.o;omega) (by have:=s.o.2.2.2;have:=q.o;omega)));have i1:(j:Int)<(n:Int):=by omega
    have ii:(i:Int)<(n:Int):=by omega
    clear F I z hx b;by_cases e:x.run=id
    .have L:decide (x.run=id)=true:=decide_eq_true e
     rw[L] at S;have U:=Zz e;clear e L;go_wp2_with (go_at_call 230;rw[<-D.o.2.2.1];refine S.o.mono ?_;rintro e w3 ⟨rfl,r⟩;have A:=Zz r;clear r)
     go_roundw
     case rel =>
      obtain⟨q1,C,Q,R⟩:=D.o;exact⟨i,j+1,by go_num,by go_num,((HA.o.skip s.o.2.1 hj (by rw[<-R];exact U.o)).below q1 (by have:=s.o.2.2.2.2.2;have:=q.o;omega)).below A.o (by have:=s.o.2.2.2.2.2;have:=q.o;have:=q1.size;omega),by have:=q.o;have:=q1.size;have:=A.o.size;omega⟩
     case measure=>simp[intOf];omega
    .have L:decide (x.run=id)=false:=decide_eq_false e
     rw[L] at S;have U:=Zz e;clear e L;go_wp2_with (go_at_call 230;rw[<-D.o.2.2.1,<-D.o.2.1];refine S.o.mono ?_;rintro e w3 ⟨rfl,r⟩;have A:=Zz r;have J:=Zz ((HA.o.below D.o.1 (by have:=s.o.2.2.2.2.2;have:=q.o;omega)).below r (by have:=s.o.2.2.2.2.2;have:=q.o;have:=D.o.1.size;omega));obtain⟨y0,y1,y2,y3,y4,y5⟩:=J.o.place;have z0:=QFa r z0;have z1:=QFa r z1;clear r)
     go_roundw
     case rel =>
      obtain⟨q1,C,Q,R⟩:=D.o;have hk:=J.o.Ak s.o.2.1 hj (by rw[<-R];exact U.o) HF.o.2.2.2;rw[<-R] at hk;exact⟨i+1,j+1,by go_num,by go_num,hk,by have:=q.o;have:=q1.size;have:=A.o.size;simp only[QDw,Array.size_modify];omega⟩
     case measure=>simp[intOf];omega
   .have ag:j=n:=by have:=b.jn;omega
    subst ag;obtain⟨q1,C,Q⟩:=b.end_ s.o.2.1 HF.o.2.2.2;have ae:=b.ij;obtain⟨ys,y1,y2,y6⟩:=b.row
    obtain⟨d,k1,k2⟩:∃d,wr.heap[g]? =some (.cells d 274 (0,0))/\j * 2<=d.size:=by
     rcases y2.2 with⟨E,_⟩ | ⟨g',cap,d,E,_,hh,X,h4,h5,_⟩
     .cases E
     .obtain⟨rfl,rfl⟩:g=g'/\c=cap:=by simpa using E
      exact⟨d,hh,by have:=QEy 2 X;omega⟩
    have au:=fun ty=>My wr g i (j - i) (c - i) d k1 (by rw[show i+(j - i)=j by omega];exact k2) (by omega) ty
    have W:=Zz (Zq q1 (Zq C Q));have i1:¬(j:Int)<(j:Int):=by omega
    have ar:¬c=i:=by omega
    clear q1 C Q y6 y1 y2 k1 k2 b
    generalize wr.setCells g (i * 2) ((QAw (j - i) (⟨0,0⟩:Ba)).flatMap AX)=w5 at *
    go_wp2_with fail
    go_ret
    exact⟨some ⟨g,0,none⟩,i,c,rfl,W.o.1,W.o.2.1,W.o.2.2⟩
 .have e:T= -1:=by rw[v];unfold SU;rw[if_neg hf]
  subst e;have HF:=Zz hf;clear h hn hg v hf
  go_enter func273,ntmps273
  go_wp2_with (go_at_call 286;refine V.o.mono ?_;rintro e w1 ⟨rfl,y⟩;have u:=Zz y;clear y)
  go_ret
  obtain⟨ho,hn,_,_,_,Y⟩:=s.o;have hk:=JV xs id (k:=xs.length) (by have:=HF.o;unfold Zc5 at *;omega);rw[Ov,QHn] at hk;exact⟨a,n,c,rfl,by rw[hk,hn],by rw[hk];exact Zak ho u.o,u.o.mono Y⟩
theorem UD (w:World)(ty:TypeId)(a:Option Addr)(c:Nat):(QAe #[152] ty #[.slice a 0 c]).run prog w=.ok (.tuple #[]) w:=by
 cases a<;>simp[QAe,run_underlying underlying152]
theorem UE {b N M m:Nat}{cur:Array Value}(hw:w.heap[b]? =some (.cells cur 274 (0,0)))(p:w.ownsRow B 274 2 (.slice a m c) m (xs.flatMap AX))(hm:m=xs.length)(o:m<=N)(u:N * 2<=cur.size)(ty:TypeId) :
  (QAh #[152,152] ty #[.slice (some ⟨b,0,none⟩) N M,.slice a m c]).run prog w=.ok (goInt m) (w.setCells b 0 (xs.flatMap AX)):=by
 rcases p.2 with⟨d,y⟩ | ⟨g,cap,h,d,hg,hh,z⟩
 .have r:m=0:=by
   simp only[QGx] at d;omega
  have x:xs=[]:=QHa (by omega);subst x r;exact Zcz w 152 152 ty 274 2 _ a N M 0 c underlying152 KL (QHs _)
 .obtain⟨rfl,_,rfl⟩:a=some ⟨g,0,none⟩/\m=m/\c=cap:=by simpa using d
  refine Mz w ty b 0 N M m ⟨g,0,none⟩ m c cur xs hw (QEx o) hm.symm (by rw[QDk];exact Zv (QEy _ o) u) (fun j v q=> ?_)
  have s:j<m * 2:=by
   have:=(List.getElem?_eq_some_iff.1 q).1;rw[Zaq] at this;rw[hm];exact this
  rw[Zcg,QDk,p.cellAt j s];exact q
theorem VA (l:List Ba)(id:Int):(Zd2 l id).length<=l.length:=List.length_filter_le _ _
theorem PE (w:World)(P B n c first N rb:Nat)(a:Option Addr)(ys xs:List Ba)(id:Int)(h:FV w P B a n c first ys xs)(hg:EC w N rb id) :
  Calls prog 229 #[.pointer (some ⟨P,8,none⟩),.func (.func 230) #[] #[.pointer (some ⟨N,0,none⟩)]] w fun e w'=>e=.returned (.tuple #[])/\∃v,FV w' P B a n c 0 v (Zd2 xs id)/\RF w w' P (QFv a n c).ownBlock 8 11:=by
 have HL:=Zz (Kc w P B n c first a ys xs h);have R:=h.Br;have al:xs.length<=n:=by have:=h.ring.Br;have:=h.len;omega
 have H:=Zz (Zq h hg);have ag:P<w.heap.size:=Zy h.pb h.bs;by_cases h0:n=0
 .subst h0
  have O:∀u,ZY w u->∀a1 c1,u.ownsRow w.heap.size 274 2 (.slice a1 xs.length c1) xs.length (xs.flatMap AX)->Calls prog 273 #[.slice a1 xs.length c1,.func (.func 230) #[] #[.pointer (some ⟨N,0,none⟩)]] u fun e w'=>∃z A,e=.returned (.slice z 0 A)/\ZY w w'/\Zd2 xs id=[]:=by
   intro u b a1 c1 d;refine (NR u w.heap.size a1 xs.length c1 N rb id xs d rfl (by omega) (H.o.2.below b H.o.2.bl H.o.2.rl) H.o.2.bl H.o.2.rl b.size).mono ?_;rintro e q ⟨z,m,A,rfl,hm,K,p⟩;have hx:xs=[]:=QHa (by omega);subst hx;obtain rfl:m=0:=hm;exact⟨z,A,rfl,b.trans p,rfl⟩
  have F:=Zz O;have HQ:=Zz h.q0;clear h hg O
  go_enter func229,ntmps229
  go_wp2_with (first | (go_at_call 211;refine HL.o.mono ?_;rintro e u ⟨a1,c1,rfl,d,b⟩;have x:=Zz (Zq d b);clear d b) | (go_at_call 273;refine (F.o _ x.o.2 _ _ x.o.1).mono ?_;rintro e q ⟨a2,c2,rfl,p,hl⟩;have y:=Zz (Zq p hl);have r:=Zz (HQ.o.below p);have c0:=r.o.c0;have d1:=r.o.c1;have d2:=r.o.c2;have f1:=r.o.fz 9;have f2:=r.o.fz 10;have C:=fun ty=>UD q ty a c;have I:=fun ty=>Zcz q 152 152 ty 274 2 a a2 0 c 0 c2 underlying152 KL (QHs _);clear p hl))
  go_end0
  have hr:Bt ys 0 ([]:List Ba):=by
   have hy:ys=[]:=QHa HQ.o.len;rw[hy];exact .nil
  have k1:=RF.Ae P (QFv a 0 c).ownBlock 8 11 y.o.1;exact⟨rfl,ys,by rw[y.o.2];exact ((r.o.KH 0).WH 0).toQ (first:=0) rfl rfl hr (by omega),(k1.trans (RF.Bv _ P 9 _ (.int .i64 0) (lo:=8) (hi:=11) (by decide)) (fun k hk=>Zu hk)).trans (RF.Bv _ P 10 _ (.int .i64 0) (lo:=8) (hi:=11) (by decide)) (fun k hk=>Zu hk)⟩
 .obtain⟨g,cur,rfl,J,Y,Q⟩:∃g cur,a=some ⟨g,0,none⟩/\w.heap[g]? =some (.cells cur 274 (0,0))/\n<=c/\cur.size=c * 2:=by
   rcases h.row.2 with⟨G,_⟩ | ⟨g,cap,cur,G,_,hh,U,h4,h5,_⟩
   .simp only[QGx] at G;omega
   .obtain⟨rfl,_,rfl⟩:a=some ⟨g,0,none⟩/\n=n/\c=cap:=by simpa using G
    exact⟨g,cur,rfl,hh,U,h5⟩
  have E:n * 2<=cur.size:=by rw[Q];exact QEy _ Y
  have O:∀u,ZY w u->∀a1 c1,u.ownsRow w.heap.size 274 2 (.slice a1 xs.length c1) xs.length (xs.flatMap AX)->Calls prog 273 #[.slice a1 xs.length c1,.func (.func 230) #[] #[.pointer (some ⟨N,0,none⟩)]] u fun e q=>∃z m A L w4,e=.returned (.slice z m A)/\(∀ty,(QAe #[152] ty #[.slice (some ⟨g,0,none⟩) n c]).run prog q=.ok (.tuple #[]) L)/\(∀ty,(QAh #[152,152] ty #[.slice (some ⟨g,0,none⟩) n c,.slice z m A]).run prog L=.ok (goInt m) w4)/\m=(Zd2 xs id).length/\(∃v,Ds w4 P B (some ⟨g,0,none⟩) n c first xs.length v/\Bt v 0 (Zd2 xs id))/\RF w w4 P (some g) 8 11/\q.cell? ⟨P,8,none⟩=some (.slice (some ⟨g,0,none⟩) n c)/\L.cell? ⟨P,8,none⟩=some (.slice (some ⟨g,0,none⟩) n c):=by
   intro u b a1 c1 d;refine (NR u w.heap.size a1 xs.length c1 N rb id xs d rfl (by omega) (H.o.2.below b H.o.2.bl H.o.2.rl) H.o.2.bl H.o.2.rl b.size).mono ?_;rintro e q ⟨z,m,A,rfl,hm,K,p⟩;have X:g<w.heap.size:=Zaa J;have hb:ZY w q:=b.trans p;have S:=(hb.block g X).trans J;have T:=H.o.1.q0.below hb;have aj:=VA xs id;obtain⟨s1,s2⟩:=T.setRow 0 (QAw n (⟨0,0⟩:Ba)) (by simp);have C:=fun ty=>My q g 0 n c cur S (by rw[QDk];exact E) (by omega) ty
   rw[QHt] at s1 s2 C;obtain⟨ae,g3,g4,_⟩:=Zcm g 274 ((QAw n (⟨0,0⟩:Ba)).flatMap AX) 0 q cur S (by rw[Zaq,QHp,QDk];exact E);have V:∀k,k≠g->(q.setCells g 0 ((QAw n (⟨0,0⟩:Ba)).flatMap AX)).heap[k]? =q.heap[k]? :=fun k hk=>Zap g k hk _ _ _
   generalize q.setCells g 0 ((QAw n (⟨0,0⟩:Ba)).flatMap AX)=L at *
   have Z:L.ownsRow w.heap.size 274 2 (.slice z m A) m ((Zd2 xs id).flatMap AX):=by
    refine⟨K.1,?_⟩;rcases K.2 with G | ⟨g2,cap,c2,G,W,hh,U⟩
    .exact Zu G
    .exact Zj ⟨g2,cap,c2,G,W,(V g2 (by omega)).trans hh,U⟩
   have I:=fun ty=>UE (M:=c) g3 Z hm (show m<=n by omega) (by rw[g4];exact E) ty
   obtain⟨u1,u2⟩:=s1.setRow 0 (Zd2 xs id) (by omega);rw[QHt] at u1 u2;refine⟨z,m,A,L,_,rfl,C,I,hm,⟨_,u1,?_⟩,((RF.Ae P (some g) 8 11 hb).trans s2 (fun k hk=>Zu hk)).trans u2 (fun k hk=>Zu hk),T.c0,s1.c0⟩;rw[List.take_zero,List.nil_append];exact .MX _ _
  have F:=Zz O;clear h hg O J Q E
  go_enter func229,ntmps229
  go_wp2_with (first | (go_at_call 211;refine HL.o.mono ?_;rintro e u ⟨a1,c1,rfl,d,b⟩;have x:=Zz (Zq d b);clear d b) | (go_at_call 273;refine (F.o _ x.o.2 _ _ x.o.1).mono ?_;rintro e q ⟨a2,m,c2,L,w4,rfl,C,I,hm,s,D,c0,d0⟩;have y:=Zz (Zq hm (Zq s D));have d1:=s.choose_spec.1.c1;have d2:=s.choose_spec.1.c2;have f1:=s.choose_spec.1.fz 9;have f2:=s.choose_spec.1.fz 10;clear hm s D))
  go_end0
  obtain⟨hm,⟨v,q1,q2⟩,D⟩:=y.o;exact⟨rfl,v,((q1.KH 0).WH m).toQ (first:=0) rfl (by rw[hm]) q2 R,(D.trans (RF.Bv _ P 9 _ (.int .i64 0) (lo:=8) (hi:=11) (by decide)) (fun k hk=>Zu hk)).trans (RF.Bv _ P 10 _ (.int .i64 m) (lo:=8) (hi:=11) (by decide)) (fun k hk=>Zu hk)⟩
theorem Fs {α:Type} [BEq α] [LawfulBEq α]:∀(a b:List α),a.Nodup->(∀x∈a,x∈b)->a.length<=b.length
 | [],_,_,_=>Nat.zero_le _
 | x::a,b,h,hs=>by
  have d:=hs x (QDa ..);have o:=Fs a (b.erase x) (List.nodup_cons.1 h).2 (fun y m=>(List.mem_erase_of_ne (fun (e:y=x)=>(List.nodup_cons.1 h).1 (e▸m))).2 (hs y (QDg _ m)));have p:=List.length_erase_of_mem d;have q:0<b.length:=List.length_pos_of_mem d;simp only[QAs];omega
theorem MC {α β:Type}(f:α->List β)(b:Nat)(l:List α)(h:∀x∈l,(f x).length<=b):(l.flatMap f).length<=l.length * b:=by
 induction l with
 | nil=>simp
 | cons a l m =>
  have o:=h a (QDa ..);have p:=m (fun x d=>h x (QDg _ d));rw[QDh,ZX,QAs,QBi];omega
theorem Ao.TB (h:Ao e):e.queue.length<=72:=by
 classical
 have d:=Fs e.queue ((QAr e.runs.length).flatMap (fun i=>(QAr (e.at_ i).steps.length).map (fun k=>(⟨(e.at_ i).id,k⟩:Ba)))) h.qn (fun p hp=>by
  obtain⟨i,hi,d,b,_⟩:=(h.qm p).1 hp;rw[List.mem_flatMap];refine⟨i,List.mem_range.2 hi,List.mem_map.2 ⟨p.node,List.mem_range.2 b,?_⟩⟩
  cases p
  simp only[Ba.mk.injEq,and_true];exact d)
 have b:=MC (fun i=>(QAr (e.at_ i).steps.length).map (fun k=>(⟨(e.at_ i).id,k⟩:Ba))) 12 (QAr e.runs.length) (fun i hi=>by
  have:=(h.runs i (List.mem_range.1 hi)).IS;simp;omega)
 have:=h.WL;rw[QHq] at b;omega
theorem Ed (h:((e.at_ i).at_ k).tries<(e.at_ i).fl.bu k):e.AH i k=({ e with timers:=e.timers+1 }:Ab).Af i k (fun s=>{ s with st:=4,fin:=Zao e.time (Zbs ((e.at_ i).fl.ba k) ((e.at_ i).fl.ca k) ((e.at_ i).fl.ji k) s.tries e.Ar),BM:=e.timers+1 }):=by
 unfold Ab.AH;simp only;rw[if_pos h]
theorem Gf (hi:i<e.runs.length)(h:¬((e.at_ i).at_ k).tries<(e.at_ i).fl.bu k):e.AH i k=((e.Af i k (fun s=>{ s with st:=6 })).AL i (fun _=>Ag.BN (e.at_ i).steps.length (((e.Af i k (fun s=>{ s with st:=6 }))).at_ i))).settle i:=by
 unfold Ab.AH;simp only;rw[if_neg h];have b:=Zbf (e':=e.Af i k (fun s=>{ s with st:=6 })) (f:=fun s=>{ s with st:=6 }) (k:=k) rfl hi;rw[if_pos rfl] at b;rw[b]
 have heq:e.AL i (fun r=>Ag.BN r.steps.length (r.Af k (fun s=>{ s with st:=6 })))=e.AL i (fun _=>Ag.BN (e.at_ i).steps.length ((e.at_ i).Af k (fun s=>{ s with st:=6 }))):=by
  rw[IV]
 rw[heq]
 congr 1
 unfold Ab.Af;rw[Zen]
def IC (id:Int)(k:Nat)(s:AO)(t:Tm):Prop:=(s.st=3/\t=⟨Bc id k 1,s.fin,s.BM⟩)\/(s.st=4/\t=⟨Bc id k 3,s.fin,s.BM⟩)\/(s.st=3/\0<s.sign/\t=⟨Bc id k 2,s.sign,s.Bg⟩)
def KY (r:Ag)(t:Tm):Prop:=r.st=1/\(t=⟨Bc r.id (-1) 0,r.CW,r.Cz⟩\/∃k,k<r.steps.length/\IC r.id k (r.at_ k) t)
def BH (e:Ab)(t:Tm):Prop:=∃i,i<e.runs.length/\KY (e.at_ i) t
theorem EN (e:Ab)(t:Tm):BH e t↔∃d,d∈e.AS/\t=e.DT d:=by
 constructor
 .rintro⟨i,hi,p,u⟩
  rcases u with rfl | ⟨k,hk,r⟩
  .exact⟨⟨i,none,false,(e.at_ i).CW,(e.at_ i).Cz⟩,Zas.2 ⟨hi,p,rfl,rfl,rfl⟩,rfl⟩
  .rcases r with⟨b,rfl⟩ | ⟨b,rfl⟩ | ⟨b,m,rfl⟩
   .refine⟨⟨i,some k,false,((e.at_ i).at_ k).fin,((e.at_ i).at_ k).BM⟩,Zas.2 ⟨hi,p,hk,Zu b,rfl,rfl⟩,?_⟩
    simp[Ab.DT,Ab.kindOf,EV,b]
   .refine⟨⟨i,some k,false,((e.at_ i).at_ k).fin,((e.at_ i).at_ k).BM⟩,Zas.2 ⟨hi,p,hk,Zj b,rfl,rfl⟩,?_⟩
    simp[Ab.DT,Ab.kindOf,EV,b]
   .exact⟨⟨i,some k,true,((e.at_ i).at_ k).sign,((e.at_ i).at_ k).Bg⟩,Zas.2 ⟨hi,p,hk,b,m,rfl,rfl⟩,rfl⟩
 .rintro⟨d,x,rfl⟩
  obtain⟨i,k,sg,tm,sq⟩:=d;obtain⟨p,u,r⟩:=Zas.1 x;refine⟨i,p,u,?_⟩
  cases k with
  | none =>
   obtain⟨rfl,b,m⟩:=r
   left
   simp only at b m;subst b m
   rfl
  | some k =>
   right
   obtain⟨b,m⟩:=r;refine⟨k,b,?_⟩
   cases sg with
   | true =>
    obtain⟨o,s,q,v⟩:=m;simp only at q v;subst q v;exact Zj (Zj ⟨o,s,rfl⟩)
   | false =>
    obtain⟨o,s,q⟩:=m;simp only at s q;subst s q;rcases o with o | o
    .left
     have h:((e.at_ i).at_ k).st=3:=o;exact⟨h,by simp[Ab.DT,Ab.kindOf,EV,h]⟩
    .right;left
     have h:((e.at_ i).at_ k).st=4:=o;exact⟨h,by simp[Ab.DT,Ab.kindOf,EV,h]⟩
theorem Zbc :Bf e l↔Bo l/\∀t,t∈l↔BH e t:=by
 constructor
 .intro h
  refine⟨h.rising,fun t=> ?_⟩;rw[EN];constructor
  .exact fun m=>h.mem t m
  .rintro⟨d,b,rfl⟩
   exact h.all d b
 .rintro⟨p,o⟩
  exact⟨p,fun d b=>(o _).2 ((EN e _).2 ⟨d,b,rfl⟩),fun t m=>(EN e t).1 ((o t).1 m)⟩
def Dr (id:Int)(k:Nat)(t:Tm):Prop:=∃q:Int,1<=q/\q<=3/\t.id=Bc id k q
theorem IC.own {s:AO}(h:IC id k s t):Dr id k t:=by
 rcases h with⟨_,rfl⟩ | ⟨_,rfl⟩ | ⟨_,_,rfl⟩
 .exact⟨1,by decide,by decide,rfl⟩
 .exact⟨3,by decide,by decide,rfl⟩
 .exact⟨2,by decide,by decide,rfl⟩
def ID (id:Int)(t:Tm):Prop:=∃nd q:Int,(-1<=nd/\nd<15)/\(0<=q/\q<4)/\t.id=Bc id nd q
theorem KY.of {r:Ag}(h:KY r t)(hn:r.steps.length<=12):ID r.id t:=by
 obtain⟨_,b⟩:=h;rcases b with rfl | ⟨k,hk,d⟩
 .exact⟨-1,0,by omega,by omega,rfl⟩
 .obtain⟨q,o,p,m⟩:=d.own
  exact⟨k,q,by omega,by omega,m⟩
theorem ID.uniq {a b:Int}(h:ID a t)(g:ID b t):a=b:=by
 obtain⟨n,q,d,o,r⟩:=h;obtain⟨m,p,g1,g2,g3⟩:=g;exact (DI (r.symm.trans g3) d g1 o g2).1
theorem Dr.of (h:Dr id k t)(hk:k<12):ID id t:=by
 obtain⟨q,d,m,b⟩:=h;exact⟨k,q,by omega,by omega,b⟩
theorem Dr.uniq {m:Nat}(h:Dr id k t)(g:Dr id m t)(hk:k<12)(hm:m<12):k=m:=by
 obtain⟨q,d,o,b⟩:=h;obtain⟨p,g1,g2,g3⟩:=g;have:=(DI (b.symm.trans g3) (by omega) (by omega) (by omega) (by omega)).2.1;omega
theorem IX (hk:k<12)(h:Dr id k t)(b:t.id=Bc id (-1) 0):False:=by
 obtain⟨q,m,_,d⟩:=h;have:=(DI (d.symm.trans b) (by omega) (by omega) (by omega) (by omega)).2.1;omega
theorem Ao.IS (h:Ao e)(hi:i<e.runs.length):(e.at_ i).steps.length<=12:=(h.runs i hi).IS.2
theorem BH.node (wk:Ao e)(hi:i<e.runs.length)(hk:k<(e.at_ i).steps.length)(h:BH e t)(p:Dr (e.at_ i).id k t):(e.at_ i).st=1/\IC (e.at_ i).id k ((e.at_ i).at_ k) t:=by
 obtain⟨j,s,q,b⟩:=h;have d:=(p.of (by have:=wk.IS hi;omega)).uniq (KY.of ⟨q,b⟩ (wk.IS s));have o:=wk.Cy hi s d;subst o;refine⟨q,?_⟩;rcases b with b | ⟨m,hm,r⟩
 .exact (IX (by have:=wk.IS hi;omega) p (by rw[b])).elim
 .have:=p.uniq r.own (by have:=wk.IS hi;omega) (by have:=wk.IS hi;omega)
  subst this;exact r
theorem Zdt (wk:Ao e)(hi:i<e.runs.length)(hk:k<(e.at_ i).steps.length)(q:e'.runs=(e.Af i k f).runs)(t:Tm) :
  BH e' t↔(BH e t/\¬Dr (e.at_ i).id k t)\/((e.at_ i).st=1/\IC (e.at_ i).id k (f ((e.at_ i).at_ k)) t):=by
 have hl:=Za9 q;have hn:=wk.IS hi;constructor
 .rintro⟨j,b,o,d⟩
  rw[hl] at b;have h:=Zba q b;rw[h.2.2.1] at o;rw[h.1,h.2.2.2.1,h.2.2.2.2.1,Zcb q b] at d;rcases d with d | ⟨m,hm,p⟩
  .left
   refine⟨⟨j,b,o,Zu d⟩,fun v=> ?_⟩;have s:=(v.of (by omega)).uniq (KY.of (r:=e.at_ j) ⟨o,Zu d⟩ (wk.IS b));obtain rfl:=wk.Cy hi b s;exact IX (by omega) v (by rw[d])
  .rw[Zek q hk b hm] at p
   by_cases u:i=j/\k=m
   .obtain⟨rfl,rfl⟩:=u
    rw[if_pos ⟨rfl,rfl⟩] at p;exact Zj ⟨o,p⟩
   .rw[if_neg u] at p
    left
    refine⟨⟨j,b,o,Zj ⟨m,hm,p⟩⟩,fun v=> ?_⟩;have s:=(v.of (by omega)).uniq (KY.of (r:=e.at_ j) ⟨o,Zj ⟨m,hm,p⟩⟩ (wk.IS b));obtain rfl:=wk.Cy hi b s;exact u ⟨rfl,v.uniq p.own (by omega) (by omega)⟩
 .rintro (⟨⟨j,b,o,d⟩,x⟩ | ⟨o,d⟩)
  .have h:=Zba q b
   refine⟨j,by rw[hl];exact b,by rw[h.2.2.1];exact o,?_⟩;rw[h.1,h.2.2.2.1,h.2.2.2.2.1,Zcb q b];rcases d with d | ⟨m,hm,p⟩
   .exact Zu d
   .right
    refine⟨m,hm,?_⟩;rw[Zek q hk b hm];by_cases u:i=j/\k=m
    .obtain⟨rfl,rfl⟩:=u
     exact absurd p.own x
    .rw[if_neg u];exact p
  .have h:=Zba q hi
   refine⟨i,by rw[hl];exact hi,by rw[h.2.2.1];exact o,?_⟩;rw[h.1,Zcb q hi]
   right
   refine⟨k,hk,?_⟩;rw[Zek q hk hi hk,if_pos ⟨rfl,rfl⟩];exact d
theorem UN (wk:Ao e)(hi:i<e.runs.length)(m:st≠1)(t:Tm):BH (e.end_ i st) t↔BH e t/\¬ID (e.at_ i).id t:=by
 constructor
 .rintro⟨j,b,h⟩
  rw[Zea] at b;rw[Zej e i st b] at h;by_cases c:i=j
  .rw[if_pos c] at h
   exact absurd h.1 m
  .rw[if_neg c] at h
   exact⟨⟨j,b,h⟩,fun o=>c (wk.Cy hi b (o.uniq (h.of (wk.IS b))))⟩
 .rintro⟨⟨j,b,h⟩,d⟩
  refine⟨j,by rw[Zea];exact b,?_⟩;rw[Zej e i st b];by_cases c:i=j
  .subst c;exact absurd (h.of (wk.IS b)) d
  .rw[if_neg c];exact h
theorem Sv (f:Ad)(t:Tm):BH (e.more f) t↔BH e t\/t=⟨Bc (e.Ah+1) (-1) 0,Zao e.time f.dl,e.timers+1⟩:=by
 constructor
 .rintro⟨j,d,h⟩
  rw[Za5] at d;by_cases c:j<e.runs.length
  .rw[Zb4 e f c] at h
   exact Zu ⟨j,c,h⟩
  .obtain rfl:j=e.runs.length:=by omega
   rw[Zbl] at h
   right
   rcases h.2 with o | ⟨k,hk,m⟩
   .exact o
   .rw[Zb9] at hk
    rw[Zdk e f hk] at m;rcases m with⟨b,_⟩ | ⟨b,_⟩ | ⟨b,_⟩<;>simp[Hk] at b
 .rintro (⟨j,d,h⟩ | rfl)
  .exact⟨j,by rw[Za5];omega,by rw[Zb4 e f d];exact h⟩
  .refine⟨e.runs.length,by rw[Za5];omega,?_⟩
   rw[Zbl];exact⟨rfl,Zu rfl⟩
theorem BH.same (b:e'.runs=e.runs)(t:Tm):BH e' t↔BH e t:=by
 unfold BH Ab.at_;rw[b]
theorem Bf.same (h:Bf e l)(b:e'.runs=e.runs):Bf e' l:=by
 rw[Zbc] at h ⊢;exact⟨h.1,fun t=>(h.2 t).trans (BH.same b t).symm⟩
theorem BH.sq (wk:Ao e)(h:BH e t):t.sq<=e.timers:=by
 obtain⟨d,b,rfl⟩:=(EN e t).1 h;exact (wk.Cr (Zas.1 b)).1
theorem DP {b:List Tm}{T:Int}(p:Bo b)(q:∀t,t∈b->t.sq<=T)(r:T<t.sq):Bo (b++[t]):=by
 intro i j d o;rw[ZX,List.length_singleton] at o
 have g:∀m,m<b.length->(b++[t]).getD m .z=b.getD m .z:=fun m hm=>by
  rw[ZQ,ZQ,QBg hm]
 rw[g i (by omega)];by_cases c:j<b.length
 .rw[g j c];exact p i j d c
 .obtain rfl:j=b.length:=by omega
  have h:(b++[t]).getD b.length .z=t:=by
   rw[ZQ,QBe ZU,Nat.sub_self];rfl
  rw[h];have:=q _ (Zbz (z:=Tm.z) d);omega
theorem UL (wk:Ao e):e.AS.length<=150:=by
 have b:∀(s:AO) (i k:Nat),(s.AS i k).length<=2:=by
  intro s i k;unfold AO.AS;rw[ZX]
  split<;>split<;>simp
 have d:∀i,i<e.runs.length->((e.at_ i).AS i).length<=25:=by
  intro i hi;unfold Ag.AS
  split
  .rw[QAs]
   have:=MC (fun k=>((e.at_ i).at_ k).AS i k) 2 (QAr (e.at_ i).steps.length) (fun k _=>b _ _ _);rw[QHq] at this;have:=wk.IS hi;omega
  .simp
 have:=MC (fun i=>(e.at_ i).AS i) 25 (QAr e.runs.length) (fun i hi=>d i (List.mem_range.1 hi));rw[QHq] at this;have:=wk.WL;unfold Ab.AS;omega
theorem BH.Br (C:Bo l)(o:∀t,t∈l->BH e t)(wk:Ao e):l.length<=150:=by
 have q:l.Nodup:=by
  rw[List.nodup_iff_pairwise_ne,List.pairwise_iff_getElem];intro i j hi r p z;have:=C i j p r;rw[ZQ,ZQ,ZZ hi,ZZ r] at this;simp only[Option.getD_some] at this;rw[z] at this;omega
 have A:l.length<=(e.AS.map e.DT).length:=by
  classical
  have:∀(a b:List Tm),a.Nodup->(∀x∈a,x∈b)->a.length<=b.length:=by
   intro a
   induction a with
   | nil=>intro b _ _;simp
   | cons x a E =>
    intro b m o;rw[List.nodup_cons] at m;obtain⟨u,v,rfl⟩:=List.append_of_mem (o x (QDa ..))
    have:=E (u++v) m.2 (fun y s=>by
     have h:=o y (QDg _ s);rw[QCn,List.mem_cons] at h;rw[QCn];rcases h with h | rfl | h
     .exact Zu h
     .exact absurd s m.1
     .exact Zj h)
    simp only[ZX,QAs] at this ⊢;omega
  exact this _ _ q (fun t D=>by
   obtain⟨d,m,rfl⟩:=(EN e t).1 (o t D);exact List.mem_map.2 ⟨d,m,rfl⟩)
 rw[List.length_map] at A;have:=UL wk;omega
theorem Bf.Br (h:Bf e l)(wk:Ao e):l.length<=150:=BH.Br h.rising (fun t b=>((Zbc.1 h).2 t).1 b) wk
theorem Zc6 {now span:Int}(b:1<=span):Za2 now (now+span)=Zao now span:=by
 unfold Za2 Zao;rw[if_neg (by omega)]
def Ag.RU (r:Ag)(k:Nat):Prop:=∀a,a<r.fl.an k->(r.at_ (r.fl.af k a).toNat).st=5
theorem Zd5 {r:Ag}:r.free k=true↔(r.at_ k).st=1/\r.RU k:=by
 unfold Ag.free Ag.RU;simp only[QCg,beq_iff_eq,List.all_eq_true,QHm]
theorem Kd {r:Ag}:r.lost k=true↔(r.at_ k).st=1/\∃a,a<r.fl.an k/\((r.at_ (r.fl.af k a).toNat).st=6\/(r.at_ (r.fl.af k a).toNat).st=7):=by
 unfold Ag.lost;simp only[QCg,beq_iff_eq,List.any_eq_true,QHm,Bool.or_eq_true]
structure Cg (r:Ag):Prop where
 up:∀k,k<r.steps.length->2<=(r.at_ k).st->(r.at_ k).st<=6->r.RU k
 shut:r.st=1->∀k,k<r.steps.length->r.lost k=false
structure CA (r:Ag):Prop where
 half:Cg r
 still:r.st=1->∀k,k<r.steps.length->r.free k=false
def AG (e:Ab):Prop:=∀i,i<e.runs.length->CA (e.at_ i)
theorem EH {r:Ag}(h:¬k<r.steps.length):r.at_ k=AO.z:=by
 unfold Ag.at_;rw[ZQ,List.getElem?_eq_none (by omega)];rfl
theorem Cg.to {r r2:Ag}(h:Cg r)(hf:r2.fl=r.fl)(hl:r2.steps.length=r.steps.length)
  (hu:∀k,k<r.steps.length->2<=(r2.at_ k).st->(r2.at_ k).st<=6->(2<=(r.at_ k).st/\(r.at_ k).st<=6)\/r2.RU k)
  (hd:∀m,(r.at_ m).st=5->(r2.at_ m).st=5)
  (hs:r2.st=1->∀k,k<r.steps.length->r2.lost k=false):Cg r2:=by
 refine⟨fun k hk p q=> ?_,fun o k hk=>hs o k (by omega)⟩;rw[hl] at hk;rcases hu k hk p q with⟨a,b⟩ | a
 .intro x d
  rw[hf] at d ⊢;exact hd _ (h.up k hk a b x d)
 .exact a
theorem Km {r r2:Ag}(hf:r2.fl=r.fl)(h:r.lost k=false)(o:(r2.at_ k).st=1->(r.at_ k).st=1)
  (h6:∀m,(r2.at_ m).st=6\/(r2.at_ m).st=7->(r.at_ m).st=6\/(r.at_ m).st=7):r2.lost k=false:=by
 rw[QHi] at h ⊢;intro x;obtain⟨a,b,c,d⟩:=Kd.1 x;rw[hf] at c d;exact h (Kd.2 ⟨o a,b,c,h6 _ d⟩)
theorem OF {r r2:Ag}(hf:r2.fl=r.fl)(h:r.free k=false)(d:(r2.at_ k).st=1->(r.at_ k).st=1)
  (h5:∀m,(r2.at_ m).st=5->(r.at_ m).st=5):r2.free k=false:=by
 rw[QHi] at h ⊢;intro x;obtain⟨a,b⟩:=Zd5.1 x;refine h (Zd5.2 ⟨d a,fun c o=>h5 _ ?_⟩);have:=b c (by rw[hf];exact o)
 rwa[hf] at this
theorem CA.calm {r:Ag}(h:CA r)(hk:k<r.steps.length)(a:2<=(r.at_ k).st/\(r.at_ k).st<=4)(b:2<=(f (r.at_ k)).st/\(f (r.at_ k)).st<=4):CA (r.Af k f):=by
 have o:∀m,(r.Af k f).at_ m=r.at_ m\/(m=k/\(r.Af k f).at_ m=f (r.at_ k)):=fun m=>by
  by_cases c:k=m
  .subst c;exact Zj ⟨rfl,Za7 _ _ hk⟩
  .exact Zu (Zbj _ _ c)
 have p:∀m,((r.Af k f).at_ m).st=1->(r.at_ m).st=1:=fun m x=>by
  rcases o m with c | ⟨c,d⟩
  .rwa[c] at x
  .rw[d] at x;omega
 have q:∀m,((r.Af k f).at_ m).st=5->(r.at_ m).st=5:=fun m x=>by
  rcases o m with c | ⟨c,d⟩
  .rwa[c] at x
  .rw[d] at x;omega
 have s:∀m,((r.Af k f).at_ m).st=6\/((r.Af k f).at_ m).st=7->(r.at_ m).st=6\/(r.at_ m).st=7:=fun m x=>by
  rcases o m with c | ⟨c,d⟩
  .rwa[c] at x
  .rw[d] at x;omega
 refine⟨h.half.to rfl (Zal _ _ _) (fun m hm x y=> ?_) (fun m x=> ?_) (fun g m hm=>Km (r:=r) rfl (h.half.shut g m hm) (p m) s),fun g m hm=>OF (r:=r) rfl (h.still g m (by rwa[Zal] at hm)) (p m) q⟩
 .rcases o m with c | ⟨c,d⟩
  .rw[c] at x y;exact Zu ⟨x,y⟩
  .subst c;exact Zu ⟨a.1,by omega⟩
 .rcases o m with c | ⟨c,d⟩
  .rw[c];exact x
  .subst c;omega
theorem PH (st ends:Int){r:Ag}(h:¬k<r.steps.length):(Zd6 st ends r).at_ k=r.at_ k:=by
 rw[EH (by rw[Zbg];exact h),EH h]
theorem Cg.ended {r:Ag}(h:Cg r){ends:Int}(b:st≠1):CA (Zd6 st ends r):=by
 have d:∀m,m<r.steps.length->((Zd6 st ends r).at_ m).st=(if (r.at_ m).st=5\/(r.at_ m).st=6 then (r.at_ m).st else 7):=fun m hm=>by
  rw[Zca _ _ _ hm];unfold Dz;split<;>rfl
 refine⟨h.to rfl (Zbg _ _ _) (fun m hm x y=> ?_) (fun m x=> ?_) (fun g=>absurd g b),fun g=>absurd g b⟩
 .have:=d m hm
  split at this<;>omega
 .by_cases hm:m<r.steps.length
  .rw[d m hm,if_pos (Zu x)];exact x
  .rw[PH _ _ hm];exact x
theorem CA.Tl (hi:i<e.runs.length)(h:CA (e.at_ i)):CA ((e.settle i).at_ i):=by
 unfold Ab.settle
 cases b:(e.at_ i).outcome with
 | none=>exact h
 | some st =>
  simp only;rw[Zej e i st hi,if_pos rfl];exact h.half.ended (by have:=Zdz b;omega)
theorem QP (e:Ab)(i:Nat):(e.settle i).runs.length=e.runs.length:=by
 unfold Ab.settle
 split
 .rfl
 .exact Zea e i _
theorem No (b:j<e.runs.length)(hn:j≠i):(e.settle i).at_ j=e.at_ j:=by
 unfold Ab.settle
 split
 .rfl
 .rw[Zej e i _ b,if_neg (fun x=>hn x.symm)]
theorem Xj (h:Ao e)(hi:i<e.runs.length)(b:(e.at_ i).st=1)(m:Nat):((e.Bm i).at_ i).at_ m=if (e.at_ i).free m then { (e.at_ i).at_ m with st:=2 } else (e.at_ i).at_ m:=by
 by_cases hm:m<(e.at_ i).steps.length
 .exact Hn hi hm
 .rw[EH (by rw[(h.Bm hi b).2.steps];exact hm),EH hm,if_neg]
  intro x;have:=(Zd5.1 x).1;rw[EH hm] at this;exact absurd this (by decide)
theorem Cg.Bm (h:Ao e)(hi:i<e.runs.length)(r:(e.at_ i).st=1)(hh:Cg (e.at_ i)):CA ((e.Bm i).at_ i):=by
 have o:=(h.Bm hi r).2;have hw:=Xj h hi r;have p:∀m,(((e.Bm i).at_ i).at_ m).st=if (e.at_ i).free m then 2 else ((e.at_ i).at_ m).st:=fun m=>by rw[hw m];split<;>rfl
 have q:∀m,(((e.Bm i).at_ i).at_ m).st=5↔((e.at_ i).at_ m).st=5:=fun m=>by
  rw[p m]
  split
  .rename_i g
   have:=(Zd5.1 g).1;omega
  .rfl
 have s:∀m,(((e.Bm i).at_ i).at_ m).st=1->((e.at_ i).at_ m).st=1/\(e.at_ i).free m=false:=fun m x=>by
  rw[p m] at x
  split at x
  .omega
  .rename_i g;exact⟨x,by simpa using g⟩
 have v:∀m,(((e.Bm i).at_ i).at_ m).st=6\/(((e.Bm i).at_ i).at_ m).st=7->((e.at_ i).at_ m).st=6\/((e.at_ i).at_ m).st=7:=fun m x=>by
  rw[p m] at x
  split at x
  .omega
  .exact x
 refine⟨hh.to o.fl o.steps (fun m hm x y=> ?_) (fun m=>(q m).2) (fun _ m hm=>Km o.fl (hh.shut r m hm) (fun x=>(s m x).1) v),fun _ m hm=> ?_⟩
 .by_cases g:(e.at_ i).free m=true
  .right
   intro a u;rw[o.fl] at u ⊢;exact (q _).2 ((Zd5.1 g).2 a u)
  .left
   rw[p m,if_neg g] at x y;exact⟨x,y⟩
 .rw[o.steps] at hm
  rw[QHi];intro x;obtain⟨a,b⟩:=Zd5.1 x;obtain⟨c,d⟩:=s m a;have:(e.at_ i).free m=true:=Zd5.2 ⟨c,fun z A=>(q _).1 (by have:=b z (by rw[o.fl];exact A);rwa[o.fl] at this)⟩;rw[d] at this;cases this
theorem AG.of (h:AG e)(hl:e'.runs.length=e.runs.length)(d:∀j,j<e.runs.length->j≠i->e'.at_ j=e.at_ j)(hi:CA (e'.at_ i)):AG e':=by
 intro j b;rw[hl] at b;by_cases c:j=i
 .subst c;exact hi
 .rw[d j b c];exact h j b
theorem AG.same (h:AG e)(b:e'.runs=e.runs):AG e':=by
 intro j d;have:e'.at_ j=e.at_ j:=by unfold Ab.at_;rw[b]
 rw[this];exact h j (by rwa[b] at d)
theorem AG.calm (h:AG e)(hi:i<e.runs.length)(hk:k<(e.at_ i).steps.length)(d:e'.runs=(e.Af i k f).runs)
  (a:2<=((e.at_ i).at_ k).st/\((e.at_ i).at_ k).st<=4) (b:2<=(f ((e.at_ i).at_ k)).st/\(f ((e.at_ i).at_ k)).st<=4):AG e':=by
 refine h.of (i:=i) (Za9 d) (fun j m hn=>by rw[Zbf d m,if_neg (fun x=>hn x.symm)]) ?_;rw[Zbf d hi,if_pos rfl];exact (h i hi).calm hk a b
theorem AG.end_ (h:AG e)(hi:i<e.runs.length)(b:st≠1):AG (e.end_ i st):=by
 refine h.of (i:=i) (Zea e i st) (fun j d hn=>by rw[Zej e i st d,if_neg (fun x=>hn x.symm)]) ?_;rw[Zej e i st hi,if_pos rfl];exact (h i hi).half.ended b
theorem AG.ready (h:AG e)(hi:i<e.runs.length)(hk:k<(e.at_ i).steps.length)(b:((e.at_ i).at_ k).st=4):AG (e.ready i k) :=
 h.calm hi hk (f:=fun s=>{ s with st:=2 }) rfl (by omega) (by simp)
theorem AG.settled {b:Ab}(h:AG e)(hi:i<b.runs.length)(hl:b.runs.length=e.runs.length)(m:∀j,j<e.runs.length->j≠i->b.at_ j=e.at_ j)(o:CA (b.at_ i)):AG (b.settle i) :=
 h.of (i:=i) ((QP b i).trans hl) (fun j d hn=>(No (by rw[hl];exact d) hn).trans (m j d hn)) (CA.Tl hi o)
theorem CA.dead {r:Ag}(h:CA r)(hk:k<r.steps.length)(v:(r.at_ k).st=3)(u:r.st=1){r2:Ag}(q:Es (r.Af k (fun s=>{ s with st:=6 })) r2)(p:Shut r2):CA r2:=by
 have hle:=q.leS;have d:r2.fl=r.fl:=hle.fl;have hlen:r2.steps.length=r.steps.length:=hle.len.trans (Zal _ _ _)
 have o:∀m,r2.at_ m=r.at_ m\/((r.at_ m).st=1/\(r2.at_ m).st=7)\/(m=k/\(r2.at_ m).st=6):=fun m=>by
  by_cases hm:m<r.steps.length
  .rcases hle.at_ m (by rw[Zal];exact hm) with a | ⟨a,b⟩
   .by_cases c:k=m
    .subst c;right;right;refine⟨rfl,?_⟩;rw[a,Za7 _ _ hk]
    .left;rw[a,Zbj _ _ c]
   .by_cases c:k=m
    .subst c;rw[Za7 _ _ hk] at a;simp at a
    .rw[Zbj _ _ c] at a b
     right;left;exact⟨a,by rw[b];rfl⟩
  .left
   rw[EH (by rw[hlen];exact hm),EH hm]
 refine⟨h.half.to d hlen (fun m _ x y=> ?_) (fun m x=> ?_) (fun _ m hm=>p m (by rw[hlen];exact hm)),fun _ m hm=>OF d (h.still u m (by omega)) (fun x=> ?_) (fun m x=> ?_)⟩
 .rcases o m with a | ⟨_,a⟩ | ⟨a,_⟩
  .rw[a] at x y;exact Zu ⟨x,y⟩
  .omega
  .subst a;left;omega
 .rcases o m with a | ⟨a,_⟩ | ⟨a,_⟩
  .rw[a];exact x
  .omega
  .subst a;omega
 .rcases o m with a | ⟨_,a⟩ | ⟨_,a⟩
  .rwa[a] at x
  .omega
  .omega
 .rcases o m with a | ⟨_,a⟩ | ⟨_,a⟩
  .rwa[a] at x
  .omega
  .omega
theorem AG.AH (h:AG e)(q:Aj e)(hi:i<e.runs.length)(hk:k<(e.at_ i).steps.length)(r:((e.at_ i).at_ k).st=3):AG (e.AH i k):=by
 by_cases b:((e.at_ i).at_ k).tries<(e.at_ i).fl.bu k
 .rw[Ed b]
  exact h.calm hi hk rfl (by omega) (by simp)
 .rw[Gf hi b]
  have o:=q.wk.Bi hi hk (by omega);have m:=Zbf (e':=e.Af i k (fun s=>{ s with st:=6 })) (f:=fun s=>{ s with st:=6 }) (k:=k) rfl hi;rw[if_pos rfl] at m;rw[m];obtain⟨k1,k2⟩:=Zed ((e.at_ i).Af k (fun s=>{ s with st:=6 }));rw[Zal] at k1 k2;have d:=(h i hi).dead hk r o k1 k2
  generalize Ag.BN (e.at_ i).steps.length ((e.at_ i).Af k (fun s=>{ s with st:=6 }))=r2 at *
  have he:(e.Af i k (fun s=>{ s with st:=6 })).AL i (fun _=>r2)=e.AL i (fun _=>r2):=by unfold Ab.Af;rw[Zen]
  rw[he];refine h.settled (by rw[Zbk];exact hi) (Zbk e i _) (fun j p hn=>by rw[Zbr e i j _ p,if_neg (fun x=>hn x.symm)]) ?_;rw[Zbr e i i _ hi,if_pos rfl];exact d
theorem CA.UJ {r:Ag}(h:CA r)(hk:k<r.steps.length)(d:(r.at_ k).st=3):Cg (r.Af k (fun s=>{ s with st:=5 })):=by
 have b:∀m,(r.Af k (fun s=>{ s with st:=5 })).at_ m=r.at_ m\/(m=k/\((r.Af k (fun s=>{ s with st:=5 })).at_ m).st=5):=fun m=>by
  by_cases c:k=m
  .subst c;right;exact⟨rfl,by rw[Za7 _ _ hk]⟩
  .left;exact Zbj _ _ c
 refine h.half.to rfl (Zal _ _ _) (fun m _ x y=> ?_) (fun m x=> ?_) (fun g m hm=>Km (r:=r) rfl (h.half.shut g m hm) (fun x=> ?_) (fun m x=> ?_))
 .rcases b m with a | ⟨a,_⟩
  .rw[a] at x y;exact Zu ⟨x,y⟩
  .subst a;left;omega
 .rcases b m with a | ⟨_,a⟩
  .rw[a];exact x
  .exact a
 .rcases b m with a | ⟨_,a⟩
  .rwa[a] at x
  .omega
 .rcases b m with a | ⟨_,a⟩
  .rwa[a] at x
  .omega
theorem AG.complete (h:AG e)(q:Aj e){tok:Int}(he:e.complete tok=some e'):AG e':=by
 unfold Ab.complete at he
 split at he
 .cases he
 .rename_i i k v
  obtain⟨hi,hk,u,_⟩:=Zdn v
  cases he
  have r:=q.wk.Bi hi hk (by omega);have hw:=q.wk.over hi hk 5 (by omega) (by omega) (by omega);have b:=FF.Af e k (fun s=>{ s with st:=5 }) e.queue hi;have b:FF e (e.Af i k (fun s=>{ s with st:=5 })) i:=b;have o:i<(e.Af i k (fun s=>{ s with st:=5 })).runs.length:=by rw[b.len];exact hi
  have m:((e.Af i k (fun s=>{ s with st:=5 })).at_ i).st=1:=by rw[b.st];exact r
  obtain⟨_,g2⟩:=hw.Bm o m;have d:=b.trans g2;have p:=Zbf (e':=e.Af i k (fun s=>{ s with st:=5 })) (f:=fun s=>{ s with st:=5 }) (k:=k) rfl hi;rw[if_pos rfl] at p;refine h.settled (by rw[d.len];exact hi) d.len d.others (Cg.Bm hw o m ?_);rw[p];exact (h i hi).UJ hk u
theorem AG.fail (h:AG e)(d:Aj e){tok:Int}(he:e.fail tok=some e'):AG e':=by
 unfold Ab.fail at he
 split at he
 .cases he
 .rename_i i k m
  obtain⟨a,b,c,_⟩:=Zdn m
  cases he
  exact h.AH d a b c
theorem AG.AY (h:AG e){tok:Int}(he:e.AY tok=some e'):AG e':=by
 unfold Ab.AY at he
 split at he
 .cases he
 .rename_i i k d
  obtain⟨a,b,c,_⟩:=Zdn d;simp only at he
  split at he
  .cases he
   exact h.calm a b rfl (by omega) (by simp only;omega)
  .cases he;exact h
theorem Ng (d:Aj e){p:Ba}{t tk:Int}(he:e.Bl=some (p,t,tk,e')) :
  ∃i,e.find p.run=some i/\i<e.runs.length/\(e.at_ i).id=p.run/\p.node<(e.at_ i).steps.length/\((e.at_ i).at_ p.node).st=2/\(e.at_ i).st=1/\t=((e.at_ i).at_ p.node).tries+1/\tk=e.Ai+1/\e.queue=p::e'.queue/\e'.Ai=e.Ai+1/\e'.time=e.time/\e'.Ar=e.Ar/\e'.ends=e.ends/\e'.Ah=e.Ah /\
   e'.runs=(e.Af i p.node (fun s=>{ s with st:=3,tries:=t,tok:=tk,fin:=Zao e.time ((e.at_ i).fl.cl p.node),BM:=e.timers+1,sign:=if (e.at_ i).fl.be p.node > 0 then Zao e.time ((e.at_ i).fl.be p.node) else 0,Bg:=if (e.at_ i).fl.be p.node > 0 then e.timers+2 else s.Bg })).runs:=by
 unfold Ab.Bl at he
 split at he
 .cases he
 .rename_i o q h
  split at he
  .cases he
  .rename_i i hf
   obtain⟨hi,b⟩:=Rq hf;simp only[QCf,Prod.mk.injEq] at he;obtain⟨rfl,rfl,rfl,rfl⟩:=he;obtain⟨i2,q1,r,m,u⟩:=(d.wk.qm o).1 (by rw[h];exact QDa ..);have:=d.wk.Cy hi q1 (by rw[b,r]);subst this;exact⟨i,hf,hi,b,m,u,d.wk.Bi hi m (by omega),rfl,rfl,h,rfl,rfl,rfl,rfl,rfl,rfl⟩
theorem AG.Bl (h:AG e)(m:Aj e){p:Ba}{t tk:Int}(he:e.Bl=some (p,t,tk,e')):AG e':=by
 obtain⟨i,_,a,_,b,c,_,_,_,_,_,_,_,_,_,d⟩:=Ng m he;exact h.calm a b d (by omega) (by simp)
theorem AG.At (h:AG e)(b:Aj e){d:CL}(p:BV e d)(hm:∀x,BV e x->d.tm<=x.tm):AG (e.At d):=by
 have s:=b.wk.Cr p;have r:Aj { e with time:=max e.time d.tm }:=b.Fi (by omega) (by have:=b.wk.tB;omega) (fun x q=>by have:=hm x q;have:=(b.wk.Cr q).2;omega);have hu:AG { e with time:=max e.time d.tm }:=h.same rfl;obtain⟨hi,_,hk⟩:=p;unfold Ab.At
 cases o:d.k with
 | none=>exact hu.end_ hi (by omega)
 | some k =>
  rw[o] at hk;simp only at hk ⊢
  split
  .rename_i m
   exact hu.ready hi hk.1 m
  .rename_i m
   refine hu.AH r hi hk.1 ?_;have:=hk.2;unfold AO.due at this
   split at this
   .exact this.1
   .exact this.1.resolve_right m
theorem GN (e:Ab)(d:CL):(e.At d).time=max e.time d.tm:=by
 unfold Ab.At
 split
 .rfl
 .split
  .rfl
  .unfold Ab.AH
   simp only
   split
   .rfl
   .unfold Ab.settle
    split<;>rfl
theorem CZ.Rm {o:Int}{d:Ab}(p:CZ o e d)(h:AG e)(m:Aj e)(r:e.time<=o):AG d:=by
 induction p with
 | none e _=>exact h.same rfl
 | step e d b hb hle _ q =>
  obtain⟨d1,d2⟩:=Zeu hb;exact q (h.At m d1 d2) (m.At d1 d2) (by rw[GN];omega)
theorem BR.Rm {b:Ab}{t:Int}(m:BR e t b)(h:AG e)(d:Aj e)(o:0<=t):AG b :=
 CZ.Rm m h d (Nv d.wk o).1
theorem PW (e:Ab)(f:Ad):Cg (e.fresh f):=by
 have b:∀m,((e.fresh f).at_ m).st<=1:=fun m=>by
  by_cases hm:m<(e.fresh f).steps.length
  .rw[Zb9] at hm;rw[Zdk e f hm];decide
  .rw[EH hm];decide
 refine⟨fun k _ x _=>by have:=b k;omega,fun _ k _=> ?_⟩;rw[QHi];intro x;obtain⟨_,a,_,d⟩:=Kd.1 x;have:=b ((e.fresh f).fl.af k a).toNat;omega
theorem AG.begin (h:AG e)(p:Aj e)(m:e.runs.length<6){f:Ad}(hf:BW f):AG (e.begin f):=by
 have hw:=p.wk.more m hf;have hi:e.runs.length<(e.more f).runs.length:=by rw[Za5];omega
 have d:((e.more f).at_ e.runs.length).st=1:=by rw[Zbl];rfl
 obtain⟨_,g2⟩:=hw.Bm hi d;rw[Du];intro j o;rw[g2.len,Za5] at o;by_cases b:j=e.runs.length
 .subst b
  exact Cg.Bm hw hi d (by rw[Zbl];exact PW e f)
 .rw[g2.others j (by rw[Za5];omega) b,Zb4 e f (by omega)]
  exact h j (by omega)
theorem AG.cut (h:AG e){o:Nat}(b:o<e.runs.length):AG (e.cut o):=by
 intro j d;have:=Zer e b;rw[Gd e b];exact h _ (by split<;>omega)
theorem AG.AM (h:AG e)(b:Aj e){f:Ad}(hf:BW f)(he:e.AM f=some e'):AG e':=by
 have p:=b.wk.WL;unfold Ab.AM at he
 split at he
 .split at he
  .cases he
  .rename_i o hold
   cases he
   obtain⟨o1,o2,_⟩:=DM hold
   have d:(e.at_ o).st≠1:=fun x=>by
    have:=(b.wk.runs o o1).goes.1 x;unfold Ab.at_ at this;omega
   have m:=Zer e o1;exact AG.begin (h.cut o1) (b.cut o1 d) (by omega) hf
 .cases he
  exact h.begin b (by omega) hf
theorem Su:AG Za1:=fun i hi=>by simp[Za1] at hi
