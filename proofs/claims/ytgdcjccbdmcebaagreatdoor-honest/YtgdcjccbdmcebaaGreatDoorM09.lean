import Derived.Test.YtgdcjccbdmcebaaGreatDoorM02
import Derived.Deep.CutRange
set_option linter.all false
set_option maxHeartbeats 4000000
set_option maxRecDepth 100000
open Array renaming length_toList->QGr,size_modify->QGs
open Go renaming heap_alloc_new->QFm,wp_loop_rounds->QGt,cell_later->QFa,madeCells->QGu,rounds_succ->QGv,size_madeCells->QGw
open Go.RowKit renaming ownsRow_setCell_below->QDu
open Go.Value renaming ownBlock->QCi,slice.injEq->QGx,slice->QFv
open Go.World renaming cell?->QEk,setCells->QEi,cell?_setCell_same->QDz,cell?_setCell_other->QGd,frozen?_of_block->QDx,frozen?_setCell->QEa,setCell->QDw,cell?_of_block->QEc
open List renaming take_zero->QGy,length_set->QAo,nil_append->QGz,getElem?_take_of_lt->QBb,eq_nil_of_length_eq_zero->QHa,length_drop->QAx,take_append_of_le_length->QHb,take_append_drop->QHc,flatMap_cons->QDh,drop_eq_getElem_cons->QHd,getElem?_append_left->QBg,replicate->QAw,getElem?_append_right->QBe,take_of_length_le->QCw,flatMap_append->QHe,length_take->QBf
open Nat renaming add_mul->QBi,add_zero->QBl,mod_lt->QBw,zero_add->QDk,add_sub_cancel_left->QHf,mul_one->QHg,min_le_left->QHh,min_eq_left->QEx,mul_le_mul_right->QEy
open Option renaming some.injEq->QCf
namespace Go.Proofs.YtgdcjccbdmcebaaGreatDoor
open Tryz
open Go.RowKit
attribute [local go_sem ↓] Go.wp_at_zero Go.wp_at_succ
variable {a:Option Addr}{w w':World}{ys xs:List Ba}{B c:Nat}
theorem madeTR (n:Nat):(QGu (.agg #[.int .u64 0,.int .i64 0]:Value).cells (n * 2)).toList=(QAw n (⟨0,0⟩:Ba)).flatMap AX:=by
 rw[<-LZ,<-Zb5]
 rfl
theorem Mz (w:World)(ty:TypeId)(b o d f m:Nat)(a:Addr)(e g:Nat)(cur:Array Value)(h:List Ba)(hw:w.heap[b]? =some (.cells cur 274 (0,0)))(hm:Nat.min e d=m)(l:h.length=m)(i:o+m * 2<=cur.size)
  (hsrc:∀j v,(h.flatMap AX)[j]? =some v->w.cell? (a.add j)=some v) :
  (Builtin.copy_ #[152,152] ty #[.slice (some ⟨b,o,none⟩) d f,.slice (some a) e g]).run prog w=.ok (goInt m) (w.setCells b o (h.flatMap AX)):=by
 have hl:=Zaq h;refine KB w 152 152 ty 274 2 m b o d f a e g (h.flatMap AX) underlying152 KL hm (by omega) hsrc (fun j k=> ?_) (fun j _=> ?_) (RG h)
 .unfold QEk
  rw[hw];simp only[Array.getElem?_eq_getElem (show o+j<cur.size by omega)]
  rfl
 .simp[World.frozen?,hw]
theorem Zcm (g:Nat)(e:TypeId):∀(d:List Value) (o:Nat) (w:World) (cur:Array Value),w.heap[g]? =some (.cells cur e (0,0))->o+d.length<=cur.size->∃b,(w.setCells g o d).heap[g]? =some (.cells b e (0,0))/\b.size=cur.size/\b.toList=cur.toList.take o++d++cur.toList.drop (o+d.length)
 | [],o,w,cur,h,_=>⟨cur,h,rfl,by simp⟩
 | v::r,o,w,cur,h,hl=>by
  have f:(w.setCell ⟨g,o,none⟩ v).heap[g]? =some (.cells (cur.setIfInBounds o v) e (0,0)):=by
   simp[QDw,Array.getElem?_modify,h]
  obtain⟨b,i,j,k⟩:=Zcm g e r (o+1) (w.setCell ⟨g,o,none⟩ v) (cur.setIfInBounds o v) f (by simp at hl ⊢;omega);refine⟨b,i,by simpa using j,?_⟩;simp only[List.length_cons] at hl ⊢;have l:o<cur.toList.length:=by simp;omega
  rw[k,Array.toList_setIfInBounds,List.take_set,List.take_add_one,ZZ l,Option.toList_some,List.set_append_right _ _ (by simp;omega),List.drop_set_of_lt (by omega)];have:o - (List.take o cur.toList).length=0:=by simp;omega
  rw[this,show o+(r.length+1)=o+1+r.length by omega];simp
theorem Zbu (w:World)(g o:Nat)(b:List Value):(w.setCells g o b).heap.size=w.heap.size/\(w.setCells g o b).os=w.os/\(w.setCells g o b).tape=w.tape/\(w.setCells g o b).output=w.output:=by
 induction b generalizing o w with
 | nil=>exact⟨rfl,rfl,rfl,rfl⟩
 | cons v r i =>
  obtain⟨d,e,f,h⟩:=i (w.setCell ⟨g,o,none⟩ v) (o+1);rw[QEi];exact⟨by rw[d];simp[QDw],e,f,h⟩
theorem Zap (g k:Nat)(hk:k≠g):∀(b:List Value) (o:Nat) (w:World),(w.setCells g o b).heap[k]? =w.heap[k]?
 | [],_,_=>rfl
 | v::r,o,w=>by rw[QEi,Zap g k hk r];exact Zl w ⟨g,o,none⟩ v k hk
theorem Zdv {k:Nat}(h:Below k w w')(g o:Nat)(b:List Value)(hg:k<=g):Below k w (w'.setCells g o b):=by
 obtain⟨d,e,f,i⟩:=Zbu w' g o b;exact⟨e.trans h.os,f.trans h.tape,i.trans h.output,by rw[d];exact h.size,fun j l=>(Zap g j (by omega) b o w').trans (h.block j l)⟩
theorem Kc (w:World)(P B n c first:Nat)(a:Option Addr)(ys xs:List Ba)(h:FV w P B a n c first ys xs) :
  Calls prog 211 #[.pointer (some ⟨P,8,none⟩)] w fun e w'=>∃a' c',e=.returned (.slice a' xs.length c')/\w'.ownsRow w.heap.size 274 2 (.slice a' xs.length c') xs.length (xs.flatMap AX)/\ZY w w':=by
 obtain⟨m,hm⟩:∃m,m=xs.length:=⟨_,rfl⟩;have c0:=h.c0;have c1:=h.c1;have c2:=h.c2;have hlen:=h.len;have b:=h.ring;have bf:=h.Br;have hf:=b.Br;have bj:m<=n:=by omega
 rw[<-hm] at c2 ⊢;have N:=EL w P m c2;have HE:=Zz N;by_cases h0:m=0
 .subst h0
  have T:xs=[]:=QHa hm.symm;have HX:=Zz T;clear hm T b hf N
  go_enter func211,ntmps211
  go_wp2_with (go_at_call 199;refine HE.o.mono ?_;rintro e G ⟨rfl,r⟩;rw[r])
  go_ret
  exact⟨none,0,rfl,by rw[HX.o];exact World.ownsRow_nil _ _ _ _,Zk _ _⟩
 .obtain⟨g,cur,rfl,hg,ay,au,V⟩:∃g cur,a=some ⟨g,0,none⟩/\B<=g/\n<=c/\c<=maxLen/\w.heap[g]? =some (.cells cur 274 (0,0)):=by
   rcases h.row.2 with⟨D,h3⟩ | ⟨g,cap,cur,D,hg,hh,h3,h4,_⟩
   .simp only[QGx] at D
    omega
   .obtain⟨rfl,_,rfl⟩:a=some ⟨g,0,none⟩/\n=n/\c=cap:=by simpa using D
    exact⟨g,cur,rfl,hg,h3,h4,hh⟩
  have i:∀j,j<n * 2->w.cell? ⟨g,j,none⟩=(ys.flatMap AX)[j]? :=fun j X=>h.row.cellAt j X
  have bh:first<n:=by
   rcases b.Ee with U | ⟨_,D⟩
   .omega
   .subst D;simp at hlen;omega
  have W:g<w.heap.size:=(Array.getElem?_eq_some_iff.1 V).1;have ae:=b.list;unfold maxLen at au;have ax:=VI w m (by omega);have z:=Zz (Zq hm (Zq ae (Zq hlen i)));have HP:=Zz (Zq h.pb h.bs);obtain⟨s,E⟩:∃s,s=w.heap.size:=⟨_,rfl⟩;obtain⟨G,r⟩:∃G,G=w.alloc (.cells (QGu (.agg #[.int .u64 0,.int .i64 0]:Value).cells (m * 2)) 274):=⟨_,rfl⟩;rw[<-E,<-r] at ax;have p:ZY w G:=by rw[r];exact ZV.alloc ZU _
  have O:G.heap[s]? =some (.cells (QGu (.agg #[.int .u64 0,.int .i64 0]:Value).cells (m * 2)) 274 (0,0)):=by rw[r,E];exact QFm w _
  have c0:=QFa p c0;have c1:=QFa p c1;have c2:=QFa p c2;have f:=Zz (Zq p (Zq E O));have aj:=Zz h.c0;have g0:decide (m=0)=false:=decide_eq_false h0;have g1:(first:Int)<=(n:Int):=by omega
  have g2:¬(c=first):=by omega
  have g3:n<=c:=ay;obtain⟨m1,q⟩:∃m1,m1=Nat.min (n - first) m:=⟨_,rfl⟩;have Y:m1<=m:=by rw[q];exact Nat.min_le_right _ _
  have k:∀j v,(((ys.drop first).take m1).flatMap AX)[j]? =some v->G.drew.cell? (Addr.add ⟨g,first * 2,none⟩ j)=some v:=by
   intro j v Z
   have X:j<m1 * 2:=by
    have:=(List.getElem?_eq_some_iff.1 Z).1;rw[Zaq,QBf] at this;have:=QHh m1 (ys.drop first).length;omega
   have x:m1<=n - first:=by rw[q];exact QHh _ _
   rw[Zcg];refine (QEc (a:=⟨g,first * 2+j,none⟩) (p.block g W)).trans ?_;rw[i _ (by omega),<-Z,<-DN,<-Fa,QBb X,List.getElem?_drop]
  have R:((ys.drop first).take m1).length=m1:=by
   rw[QBf,QAx,hlen];have:m1<=n - first:=by rw[q];exact QHh _ _
   omega
  have J:=fun ty=>Mz G.drew ty s 0 m m m1 ⟨g,first * 2,none⟩ (n - first) (c - first) _ ((ys.drop first).take m1) O q.symm R (by rw[QGw];omega) k
  have u:=Zz (Zq k (Zq R q))
  try simp only[QHg] at J
  clear r hm ae hlen i b hf N V k R p O h E q
  go_enter func211,ntmps211
  go_upto_region 4 with (go_at_call 199;refine HE.o.mono ?_;rintro e w9 ⟨rfl,az⟩;rw[az])
  try rw[<-f.o.2.1]
  go_region
  obtain⟨H,F⟩:∃H,H=G.drew.setCells s 0 (((ys.drop first).take m1).flatMap AX):=⟨_,rfl⟩
  try rw[<-F]
  have l:=Zaq ((ys.drop first).take m1);have M:ZY w H:=by rw[F];exact Zdv f.o.1.drew _ _ _ (by have:=f.o.2.1;omega)
  obtain⟨d,k1,k2,k3⟩:=Zcm s 274 (((ys.drop first).take m1).flatMap AX) 0 G.drew _ f.o.2.2 (by rw[QGw,l,u.o.2.1,QDk];exact QEy _ Y);rw[<-F] at k1;rw[QGw] at k2
  have ag:d.toList.take (m1 * 2)=((ys.drop first).take m1).flatMap AX:=by
   rw[k3];simp only[QGy,QGz];rw[QHb (by rw[l,u.o.2.1];exact Zx _),QCw (by rw[l,u.o.2.1];exact Zx _)]
  have t:=Zz (Zq M (Zq k1 (Zq k2 ag)));have ar:P<w.heap.size:=by have:=HP.o;omega
  have c0:=(QEc (a:=⟨P,8,none⟩) (M.block P ar)).trans (aj.o);clear J k1 k2 k3 ag F M l c1 c2;by_cases U:m1=m
  .subst U
   have K:∀A C,∀ty,(Builtin.copy_ #[152,152] ty #[.slice A 0 C,.slice (some ⟨g,0,none⟩) n c]).run prog H.drew=.ok (goInt 0) H.drew:=fun A C ty=>Zcz H.drew 152 152 ty 274 2 A _ 0 C n c underlying152 KL (Nat.min_zero _);go_wp2_with fail
   go_region
   go_wp2_with fail
   go_ret
   obtain⟨q1,q2,q3,q4⟩:=t.o;obtain⟨x1,x2,x3,_⟩:=z.o
   have hle:m1<=n - first:=by
    have:=u.o.2.2;rw[this];exact QHh _ _
   have T:xs.flatMap AX=d.toList.take (m1 * 2):=by
    rw[q4,x2,<-x1,show m1 - (ys.length - first)=0 by omega];simp
   refine⟨some ⟨s,0,none⟩,m1,rfl,⟨by rw[Zaq,<-x1],Zj ⟨s,m1,d,rfl,by have:=f.o.2.1;omega,q2,Zx _,by unfold maxLen;omega,q3,T.symm⟩⟩,⟨q1.os,q1.tape,q1.output,q1.size,q1.block⟩⟩
  .have x:m1=n - first:=by
    have:=u.o.2.2;rcases Nat.le_total (n - first) m with D | D
    .rw[this];exact QEx D
    .exact absurd (this.trans (Nat.min_eq_right D)) U
   obtain⟨m2,Q⟩:∃m2,m2=m - m1:=⟨_,rfl⟩
   have y:∀j v,((ys.take m2).flatMap AX)[j]? =some v->H.drew.cell? (Addr.add ⟨g,0,none⟩ j)=some v:=by
    intro j v Z
    have X:j<m2 * 2:=by
     have:=(List.getElem?_eq_some_iff.1 Z).1;rw[Zaq,QBf] at this;have:=QHh m2 ys.length;omega
    rw[Zcg];refine (QEc (a:=⟨g,0+j,none⟩) (t.o.1.block g W)).trans ?_;rw[z.o.2.2.2 _ (by omega),<-Z,<-DN,QBb X,QDk]
   have S:(ys.take m2).length=m2:=by rw[QBf,z.o.2.2.1];omega
   have K:=fun ty=>Mz H.drew ty s (m1 * 2) m2 m2 m2 ⟨g,0,none⟩ n c d (ys.take m2) t.o.2.1 (by show min n m2=m2;omega) S (by rw[t.o.2.2.1,<-QBi];exact QEy _ (by omega)) y
   try simp only[QHg] at K
   have g5:(m1:Int)<=(m:Int):=by omega
   have g6:m - m1=m2:=Q.symm;have g7:¬(m=m1):=fun e=>U e.symm;have al:=Zz (Zq Q (Zq x S));clear y x S Q U;go_wp2_with fail
   go_region
   go_wp2_with fail
   go_ret
   obtain⟨q1,q2,q3,q4⟩:=t.o;obtain⟨x1,x2,x3,_⟩:=z.o;obtain⟨y1,y2,y3⟩:=al.o;have L:=Zaq (ys.take m2);obtain⟨I,k1,k2,k3⟩:=Zcm s 274 ((ys.take m2).flatMap AX) (m1 * 2) H.drew d q2 (by rw[L,y3,q3,<-QBi];exact QEy _ (by omega))
   have T:I.toList.take (m * 2)=xs.flatMap AX:=by
    have e1:m * 2=(d.toList.take (m1 * 2)++(ys.take m2).flatMap AX).length:=by
     rw[ZX,QBf,QGr,q3,L,y3];omega
    rw[k3,e1,QHb ZU,List.take_length,q4,x2,<-x1,QHe,show m - (ys.length - first)=m2 by omega];have hd:(ys.drop first).length<=m:=by rw[QAx];omega
    have aw:(ys.drop first).length<=m1:=by rw[QAx];omega
    rw[QCw hd,QCw aw]
   refine⟨some ⟨s,0,none⟩,m,rfl,⟨by rw[Zaq,<-x1],Zj ⟨s,m,I,rfl,by have:=f.o.2.1;omega,(by first | exact k1 | (rw[QHg] at k1;exact k1)),Zx _,by unfold maxLen;omega,by rw[k2,q3],T⟩⟩,?_⟩;exact Zdv q1.drew _ _ _ (by have:=f.o.2.1;omega)
theorem YX (ys:List Ba)(p:Nat)(x:Ba)(hp:p<ys.length):(ys.flatMap AX).take (p * 2)++AX x++(ys.flatMap AX).drop (p * 2+2)=(ys.set p x).flatMap AX:=by
 rw[DN,show p * 2+2=(p+1) * 2 by omega,Fa,List.set_eq_take_append_cons_drop,if_pos hp,QHe,QDh,List.append_assoc]
theorem LY {g n p:Nat}(h:w.ownsRow B 274 2 (.slice (some ⟨g,0,none⟩) n c) n (ys.flatMap AX))(hl:ys.length=n)(hp:p<n)(x:Ba):(w.setCells g (p * 2) (AX x)).ownsRow B 274 2 (.slice (some ⟨g,0,none⟩) n c) n ((ys.set p x).flatMap AX):=by
 rcases h.2 with⟨e,_⟩ | ⟨j,cap,cur,e,hg,hh,f,k,q,l⟩
 .cases e
 .obtain⟨rfl,rfl⟩:g=j/\c=cap:=by simpa using e
  have o:p * 2+2<=n * 2:=by have:=QEy 2 (show p+1<=n by omega);omega
  have m:n * 2<=c * 2:=QEy _ f;have b:=Zbp x;obtain⟨d,k1,k2,k3⟩:=Zcm g 274 (AX x) (p * 2) w cur hh (by omega);refine⟨by rw[Zaq,QAo,hl],Zj ⟨g,c,d,rfl,hg,k1,f,k,by omega,?_⟩⟩;rw[<-YX ys p x (by omega),<-l,k3,b];have i:(cur.toList.take (n * 2)).take (p * 2)=cur.toList.take (p * 2):=by rw[List.take_take,QEx (by omega)]
  rw[i,List.take_append,QCw (by rw[ZX,QBf,QGr,b];omega),ZX,QBf,QGr,b,QEx (by omega),List.drop_take]
theorem FV.frame {P n first:Nat}(h:FV w P B a n c first ys xs)(i:w.heap.size<=w'.heap.size)(d:∀o,8<=o->o<11->w'.cell? ⟨P,o,none⟩=w.cell? ⟨P,o,none⟩)(hf:∀o,w'.frozen? ⟨P,o,none⟩=w.frozen? ⟨P,o,none⟩)(f:∀z,(QFv a n c).ownBlock=some z->w'.heap[z]? =w.heap[z]?):FV w' P B a n c first ys xs:=by
 refine⟨(d 8 (by omega) (by omega)).trans h.c0,(d 9 (by omega) (by omega)).trans h.c1,(d 10 (by omega) (by omega)).trans h.c2,fun o=>(hf o).trans (h.fz o),⟨h.row.1,?_⟩,h.len,h.ring,h.Br,h.pb,Zv h.bs i⟩;rcases h.row.2 with b | ⟨g,cap,cur,b,hg,hh,e⟩
 .exact Zu b
 .exact Zj ⟨g,cap,cur,b,hg,(f g (by rw[b];rfl)).trans hh,e⟩
theorem FV.below {P n first:Nat}(h:FV w P B a n c first ys xs)(hb:ZY w w'):FV w' P B a n c first ys xs:=by
 have b:P<w.heap.size:=Zy h.pb h.bs;exact h.frame hb.size (fun o _ _=>QEc (a:=⟨P,o,none⟩) (hb.block P b)) (fun o=>QDx (a:=⟨P,o,none⟩) (hb.block P b)) (fun z d=>hb.block z (h.row.lt z d).2)
theorem FV.CU {P g n first:Nat}(h:FV w P B (some ⟨g,0,none⟩) n c first ys xs)(p:xs.length<n)(x:Ba) :
  FV (((w.setCells g ((first+xs.length) % n * 2) (AX x)).setCell ⟨P,10,none⟩ (.int .i64 (xs.length+1:Nat))).drew) P B (some ⟨g,0,none⟩) n c first (ys.set ((first+xs.length) % n) x) (xs++[x])/\RF w (((w.setCells g ((first+xs.length) % n * 2) (AX x)).setCell ⟨P,10,none⟩ (.int .i64 (xs.length+1:Nat))).drew) P (some g) 8 11:=by
 have d:g≠P:=by
  have:=(h.row.lt g rfl).1;have:=h.pb;omega
 have f:(first+xs.length) % n<n:=QBw _ (by omega);have i:=LY h.row h.len f x;have j:∀o,(w.setCells g ((first+xs.length) % n * 2) (AX x)).cell? ⟨P,o,none⟩=w.cell? ⟨P,o,none⟩:=fun o=>QEc (a:=⟨P,o,none⟩) (Zap g P (Ne.symm d) _ _ _);have b:∀o,(w.setCells g ((first+xs.length) % n * 2) (AX x)).frozen? ⟨P,o,none⟩=w.frozen? ⟨P,o,none⟩:=fun o=>QDx (a:=⟨P,o,none⟩) (Zap g P (Ne.symm d) _ _ _);obtain⟨s1,s2,s3,q⟩:=Zbu w g ((first+xs.length) % n * 2) (AX x);have hlen:=h.len
 generalize m:w.setCells g ((first+xs.length) % n * 2) (AX x)=w1 at *
 refine⟨⟨?_,?_,?_,fun o=> ?_,?_,by rw[QAo];exact h.len,?_,h.Br,h.pb,?_⟩,?_⟩
 .exact (Zac w1 P 10 8 _ (by decide)).trans ((j 8).trans h.c0)
 .exact (Zac w1 P 10 9 _ (by decide)).trans ((j 9).trans h.c1)
 .rw[ZX,List.length_singleton]
  exact QDz w1 ⟨P,10,none⟩ _ ((j 10).trans h.c2)
 .exact (QEa w1 ⟨P,10,none⟩ _ _).trans ((b o).trans (h.fz o))
 .exact (QDu i h.pb _).drew
 .have:=h.ring.push (by omega) x
  rw[hlen] at this;exact this
 .show B<=(QDw w1 ⟨P,10,none⟩ _).heap.size
  simp only[QDw,QGs];rw[s1];exact h.bs
 .refine⟨s2,s3,q,?_,fun k hk l p=> ?_,fun _ o r=> ?_,fun _ o=> ?_⟩
  .show w.heap.size<=(QDw w1 ⟨P,10,none⟩ _).heap.size
   simp only[QDw,QGs];rw[s1];exact Zx _
  .refine (Zl w1 ⟨P,10,none⟩ _ k l).trans ?_
   rw[<-m];exact Zap g k (fun e=>p (by rw[e])) _ _ _
  .exact (Zac w1 P 10 o _ (by omega)).trans (j o)
  .exact (QEa w1 ⟨P,10,none⟩ _ _).trans (b o)
theorem NO {b N m:Nat}{cur:Array Value}(hw:w.heap[b]? =some (.cells cur 274 (0,0)))(h:w.ownsRow B 274 2 (.slice a m c) m (xs.flatMap AX))(hm:m=xs.length)(f:m<=N)(n:cur.size=N * 2)(ty:TypeId) :
  (Builtin.copy_ #[152,152] ty #[.slice (some ⟨b,0,none⟩) N N,.slice a m c]).run prog w=.ok (goInt m) (w.setCells b 0 (xs.flatMap AX)):=by
 rcases h.2 with⟨d,p⟩ | ⟨g,cap,e,d,hg,hh,q⟩
 .have k:m=0:=by
   simp only[QGx] at d;omega
  have o:xs=[]:=QHa (by omega);subst o k;exact Zcz w 152 152 ty 274 2 _ a N N 0 c underlying152 KL (Nat.zero_min _)
 .obtain⟨rfl,_,rfl⟩:a=some ⟨g,0,none⟩/\m=m/\c=cap:=by simpa using d
  refine Mz w ty b 0 N N m ⟨g,0,none⟩ m c cur xs hw (QEx f) hm.symm (by rw[n,QDk];exact QEy _ f) (fun j v i=> ?_)
  have l:j<m * 2:=by
   have:=(List.getElem?_eq_some_iff.1 i).1;rw[Zaq] at this;rw[hm];exact this
  rw[Zcg,QDk,h.cellAt j l];exact i
theorem FV.grown {e:World}{P n first nb N:Nat}(h:FV w P B a n c first ys xs)(hb:ZY w e)(j:w.heap.size<=nb)(hl:e.heap[nb]? =some (.cells (QGu (.agg #[.int .u64 0,.int .i64 0]:Value).cells (N * 2)) 274 (0,0)))(r:xs.length+1<=N/\N<=1000) :
  FV (((e.setCells nb 0 (xs.flatMap AX)).setCell ⟨P,8,none⟩ (.slice (some ⟨nb,0,none⟩) N N)).setCell ⟨P,9,none⟩ (.int .i64 0)) P B (some ⟨nb,0,none⟩) N N 0 (xs++QAw (N - xs.length) (⟨0,0⟩:Ba)) xs/\RF w (((e.setCells nb 0 (xs.flatMap AX)).setCell ⟨P,8,none⟩ (.slice (some ⟨nb,0,none⟩) N N)).setCell ⟨P,9,none⟩ (.int .i64 0)) P (QFv a n c).ownBlock 8 11:=by
 have g:P<w.heap.size:=Zy h.pb h.bs;have p:=Zaq xs;have t:xs.length * 2<=N * 2:=QEy _ (by omega);obtain⟨d,k1,k2,k3⟩:=Zcm nb 274 (xs.flatMap AX) 0 e _ hl (by rw[QGw];omega);have b:=Zdv hb nb 0 (xs.flatMap AX) j
 generalize s:e.setCells nb 0 (xs.flatMap AX)=w4 at *
 have m:∀o,w4.cell? ⟨P,o,none⟩=w.cell? ⟨P,o,none⟩:=fun o=>QEc (a:=⟨P,o,none⟩) (b.block P g);have f:∀o,w4.frozen? ⟨P,o,none⟩=w.frozen? ⟨P,o,none⟩:=fun o=>QDx (a:=⟨P,o,none⟩) (b.block P g)
 have l:w4.ownsRow B 274 2 (.slice (some ⟨nb,0,none⟩) N N) N ((xs++QAw (N - xs.length) (⟨0,0⟩:Ba)).flatMap AX):=by
  refine⟨by rw[Zaq];simp;omega,Zj ⟨nb,N,d,rfl,Zv h.bs j,k1,Zx _,by unfold maxLen;omega,by rw[k2,QGw],?_⟩⟩;have q:d.toList.take (N * 2)=d.toList:=QCw (by rw[QGr,k2,QGw];exact Zx _);rw[q,k3,madeTR,QGy,QGz,QHe,QDk,p,Fa,List.drop_replicate]
 refine⟨⟨?_,?_,?_,fun o=> ?_,?_,by simp;omega,Bt.MX _ _,r.2,h.pb,?_⟩,⟨b.os,b.tape,b.output,?_,fun k hk i _=> ?_,fun _ o v=> ?_,fun _ o=> ?_⟩⟩
 .rw[Zac _ P 9 8 _ (by decide)]
  exact QDz _ _ _ ((m 8).trans h.c0)
 .exact QDz _ _ _ (u:=.int .i64 first) (by rw[Zac _ P 8 9 _ (by decide)];exact (m 9).trans h.c1)
 .rw[Zac _ P 9 10 _ (by decide),Zac _ P 8 10 _ (by decide)];exact (m 10).trans h.c2
 .rw[QEa,QEa];exact (f o).trans (h.fz o)
 .exact QDu (QDu l h.pb _) h.pb _
 .simp only[QDw,QGs]
  exact Zv h.bs b.size
 .simp only[QDw,QGs]
  exact b.size
 .exact (Zl _ ⟨P,9,none⟩ _ k i).trans ((Zl _ ⟨P,8,none⟩ _ k i).trans (b.block k hk))
 .rw[Zac _ P 9 o _ (by omega),Zac _ P 8 o _ (by omega)];exact m o
 .rw[QEa,QEa];exact f o
def FT (w:World)(v:Nat)(x:Ba):Prop:=v<w.heap.size/\∀j u,(AX x)[j]? =some u->w.cell? ⟨v,j,none⟩=some u
theorem FT.below {v:Nat}{x:Ba}(h:FT w v x)(hb:ZY w w'):FT w' v x:=⟨Zy h.1 hb.size,fun j u b=>(QEc (a:=⟨v,j,none⟩) (hb.block v h.1)).trans (h.2 j u b)⟩
theorem Zcy (w:World)(r nd:Int):(w.alloc (.cells #[.int .u64 r,.int .i64 nd] 274)).cell? ⟨w.heap.size,0,none⟩=some (.int .u64 r)/\(w.alloc (.cells #[.int .u64 r,.int .i64 nd] 274)).cell? ⟨w.heap.size,1,none⟩=some (.int .i64 nd):=by
 have h:=QFm w (.cells #[.int .u64 r,.int .i64 nd] 274);refine⟨?_,?_⟩<;>(unfold QEk;rw[h];rfl)
theorem QG (w:World)(P B n c first M:Nat)(a:Option Addr)(ys xs:List Ba)(x:Ba)(h:FV w P B a n c first ys xs)(J:FT w M x)(al:M≠P)(de:some M≠(QFv a n c).ownBlock)(dd:xs.length<=400) :
  Calls prog 191 #[.pointer (some ⟨P,8,none⟩),.slice (some ⟨M,0,none⟩) 1 1] w fun e w'=>e=.returned (.tuple #[])/\∃a' n' c' ae db,FV w' P B a' n' c' ae db (xs++[x])/\RF w w' P (QFv a n c).ownBlock 8 11/\∀k,(QFv a' n' c').ownBlock=some k->(QFv a n c).ownBlock=some k\/w.heap.size<=k:=by
 obtain⟨m,hm⟩:∃m,m=xs.length:=⟨_,rfl⟩;have dc:=h.Br;have hlen:=h.len;have C:=h.ring;have cr:m<=n:=by have:=C.Br;omega
 by_cases hr:m<n
 .obtain⟨g,cur,rfl,hg⟩:∃g cur,a=some ⟨g,0,none⟩/\w.heap[g]? =some (.cells cur 274 (0,0)):=by
   rcases h.row.2 with⟨h2,_⟩ | ⟨g,cap,cur,h2,hg,hh,_⟩
   .simp only[QGx] at h2
    omega
   .obtain⟨rfl,_,rfl⟩:a=some ⟨g,0,none⟩/\n=n/\c=cap:=by simpa using h2
    exact⟨g,cur,rfl,hh⟩
  have hf:first<n:=by
   rcases C.Ee with h1 | ⟨_,h2⟩
   .omega
   .subst h2;simp at hlen;omega
  have c0:=h.c0;have c1:=h.c1;have c2:=h.c2;have f2:=h.fz 10;rw[<-hm] at c2;have H:=Zz (Zq h (Zq J hm));have x0:=(J.2 0 _ rfl);have x1:=(J.2 1 _ rfl);have bh:decide ((n:Int)<((m+1:Nat):Int))=false:=decide_eq_false (by omega);have e3:wrap64 ((m:Int)+1)=((m+1:Nat):Int):=by unfold wrap64;omega
  clear h J C hlen hg hm
  go_enter func191,ntmps191
  go_wp2_with fail
  refine QGt 2 ?_;rw[QGv];go_wp2_with fail
  obtain⟨w1,l⟩:∃w1,w1=w.alloc (.cells #[.int .u64 x.run,.int .i64 x.node] 274):=⟨_,rfl⟩
  try rw[<-l]
  (obtain⟨z0,z1⟩:=(show _/\_ from l▸Zcy w x.run x.node))
  have t:ZY w w1:=by rw[l];exact ZV.alloc ZU _
  have H1:=H.o.1.below t;have c0:=H1.c0;have c1:=H1.c1;have c2:=H1.c2;have f2:=H1.fz 10;rw[<-H.o.2.2] at c2;have s:(first+m) % n<n:=QBw _ (by omega);have e1:wrap64 ((first:Int)+(m:Int))=((first+m:Nat):Int):=by unfold wrap64;omega
  have e2:((first+m:Nat):Int).tmod (n:Int)=(((first+m) % n:Nat):Int):=rfl;have p:(first+m) % n<ys.length:=by rw[H1.len];exact s
  obtain⟨pos,i⟩:∃pos,pos=(first+m) % n:=⟨_,rfl⟩;have au:((first:Int)+(m:Int)) % (n:Int)=(pos:Int):=by rw[i];norm_cast
  have bw:((pos:Nat):Int)<(n:Int):=by omega
  rw[<-i] at e2 s p;obtain⟨y,K⟩:∃y,ys[pos]? =some y:=⟨_,ZZ p⟩
  have d:∀j u,(AX y)[j]? =some u->w1.cell? ⟨g,pos * 2+j,none⟩=some u:=by
   intro j u L;have T:j<2:=by have:=(List.getElem?_eq_some_iff.1 L).1;rwa[Zbp] at this
   have cu:pos * 2+2<=n * 2:=by have:=QEy 2 (show pos+1<=n by omega);omega
   rw[H1.row.cellAt _ (by omega)]
   have e5:ys.flatMap AX=(ys.take pos).flatMap AX++(AX y++(ys.drop (pos+1)).flatMap AX):=by
    conv=>lhs;rw[<-QHc pos ys,QHd p]
    rw[QHe,QDh];rw[ZZ p] at K;simp only[QCf] at K;rw[K]
   rw[e5,QBe (by rw[Zaq,QBf,QEx (by omega)];omega),Zaq,QBf,QEx (by omega),QHf,QBg (by rw[Zbp];exact T)];exact L
  have v:∀j,w1.frozen? ⟨g,pos * 2+j,none⟩=false:=fun j=>H1.row.frozenAt _;have t0:=d 0 _ rfl;have t1:=d 1 _ rfl;have t2:=v 0;have t3:=v 1
  try simp only[QBl] at t0 t2
  have cm:g≠P:=by
   have:=(H1.row.lt g rfl).1;have:=H1.pb;omega
  have HH:=Zz (Zq H1 (Zq t i));clear H1 t l i d v K
  go_region
  all_goals
   go_wp2_with fail
   rw[QGv];go_wp2_with fail
   go_end0
   obtain⟨q1,q2,q3⟩:=HH.o;have hm:=H.o.2.2;have hp:=q1.CU (by omega) x;rw[<-hm,<-q3] at hp
   try rw[QHg] at hp
   refine⟨rfl,some ⟨g,0,none⟩,n,c,first,_,hp.1,(RF.Ae P _ 8 11 q2).trans hp.2 (fun k hk=>Zu hk),fun k hk=>Zu hk⟩
 .have ax:m=n:=by omega
  obtain⟨N,hN⟩:∃N,N=max (n+1) (2 * n):=⟨_,rfl⟩;have ay:m+1<=N/\N<=1000:=by omega
  have ew:wrap64 (2 * (n:Int))=2 * (n:Int):=by unfold wrap64;omega
  have bh:decide ((n:Int)<((m+1:Nat):Int))=true:=decide_eq_true (by omega);have aw:decide ((n:Int)<(m:Int)+1)=true:=decide_eq_true (by omega);have e3:wrap64 ((m:Int)+1)=((m+1:Nat):Int):=by unfold wrap64;omega
  have c0:=h.c0;have c1:=h.c1;have c2:=h.c2;rw[<-hm] at c2;have U:=VI w N (by omega);obtain⟨nb,aj⟩:∃nb,nb=w.heap.size:=⟨_,rfl⟩;obtain⟨w2,ar⟩:∃w2,w2=w.alloc (.cells (QGu (.agg #[.int .u64 0,.int .i64 0]:Value).cells (N * 2)) 274):=⟨_,rfl⟩;rw[<-aj,<-ar] at U;have az:ZY w w2:=by rw[ar];exact ZV.alloc ZU _
  have cq:w2.heap[nb]? =some (.cells (QGu (.agg #[.int .u64 0,.int .i64 0]:Value).cells (N * 2)) 274 (0,0)):=by rw[ar,aj];exact QFm w _
  have H2:=h.below az;have bj:=Kc w2 P B n c first a ys xs H2
  rw[<-hm] at bj;have HL:=Zz bj;have b:=Zz (Zq az (Zq cq (Zq aj (Zq h (Zq J (Zq hm (Zq ay (Zq ax H2))))))));have Y:=H2.c0;have Z:=b.o.2.2.2.1.c0;have ck:=hN;clear ar az cq aj h J hm hlen C bj hN H2 ax;by_cases hA:2 * n<=n+1
  .have ag:2 * (n:Int)<=(m:Int)+1:=by have:=b.o.2.2.2.2.2.2.2.1;omega
   have cy:max ((m:Int)+1) (2 * (n:Int))=(m:Int)+1:=Int.max_eq_left ag;have eN:(N:Int)=(m:Int)+1:=by have:=b.o.2.2.2.2.2.2.2.1;omega
   rw[eN] at U;clear hA ck eN
   go_enter func191,ntmps191
   go_upto_region 3 with fail
   try rw[<-b.o.2.2.1]
   go_upto_region 4 with (go_at_call 211;refine HL.o.mono ?_;rintro e W ⟨a3,c3,rfl,G,A⟩;have bf:=NO ((A.block nb (Zaa b.o.2.1)).trans b.o.2.1) G b.o.2.2.2.2.2.1 (by have:=b.o.2.2.2.2.2.2.1;omega) (QGw _ _);have q:=Zz (Zq A G);have c0:=QFa A Y;clear A G)
   clear bf;have Q:=Zz (b.o.2.2.2.1.grown (N:=N) (b.o.1.trans' q.o.1) (by have:=b.o.2.2.1;omega) ((q.o.1.block nb (Zaa b.o.2.1)).trans b.o.2.1) (by have:=b.o.2.2.2.2.2.1;have:=b.o.2.2.2.2.2.2.1;omega));have f:=b.o.2.2.2.2.1.below (b.o.1.trans' q.o.1);have z:∀o,(W.setCells nb 0 (xs.flatMap AX)).frozen? ⟨P,o,none⟩=false:=fun o=>(QDx (a:=⟨P,o,none⟩) ((Zap nb P (by have:=b.o.2.2.1;have:=b.o.2.2.2.1.pb;have:=b.o.2.2.2.1.bs;omega) _ _ _).trans ((b.o.1.trans' q.o.1).block P (by have:=b.o.2.2.2.1.pb;have:=b.o.2.2.2.1.bs;omega)))).trans (b.o.2.2.2.1.fz o)
   have F:∀o,(W.setCells nb 0 (xs.flatMap AX)).cell? ⟨P,o,none⟩=w.cell? ⟨P,o,none⟩:=fun o=>QEc (a:=⟨P,o,none⟩) ((Zap nb P (by have:=b.o.2.2.1;have:=b.o.2.2.2.1.pb;have:=b.o.2.2.2.1.bs;omega) _ _ _).trans ((b.o.1.trans' q.o.1).block P (by have:=b.o.2.2.2.1.pb;have:=b.o.2.2.2.1.bs;omega)))
   have R:FT (((W.setCells nb 0 (xs.flatMap AX)).setCell ⟨P,8,none⟩ (.slice (some ⟨nb,0,none⟩) N N)).setCell ⟨P,9,none⟩ (.int .i64 0)) M x:=by
    refine⟨by simp only[QDw,QGs];rw[(Zbu W nb 0 _).1];exact f.1,fun j u L=> ?_⟩;have bo:M≠nb:=by have:=b.o.2.2.2.2.1.1;have:=b.o.2.2.1;omega
    refine (QGd _ _ _ _ (fun e=>al ((Addr.mk.inj e).1.symm))).trans ((QGd _ _ _ _ (fun e=>al ((Addr.mk.inj e).1.symm))).trans ?_);exact (QEc (a:=⟨M,j,none⟩) (Zap nb M bo _ _ _)).trans (f.2 j u L)
   have d0:=(F 8).trans Z;have d1:=(F 9).trans c1;have d2:=z 8;have d3:=z 9;have O:=Zz R;clear f z F R c0 Y Z
   generalize bp:W.setCells nb 0 (xs.flatMap AX)=br at *
   go_upto_region 5 with fail
   obtain⟨w4,I⟩:∃w4,w4=(br.setCell ⟨P,8,none⟩ (.slice (some ⟨nb,0,none⟩) N N)).setCell ⟨P,9,none⟩ (.int .i64 0):=⟨_,rfl⟩
   try rw[<-I]
   have hq:=Q.o;have f:=O.o;rw[<-I] at hq f;obtain⟨f0,S⟩:∃f0:Nat,f0=0:=⟨_,rfl⟩;obtain⟨D,V⟩:∃D,D=xs++QAw (N - xs.length) (⟨0,0⟩:Ba):=⟨_,rfl⟩;have r:FV w4 P B (some ⟨nb,0,none⟩) N N f0 D xs:=by rw[S,V];exact hq.1
   have H4:=Zz (Zq r (Zq f b.o.2.2.2.2.2.1));have E:=Zz (Zq hq.2 (show w.heap.size<=nb by have:=b.o.2.2.1;omega));have da:m<N:=by omega
   have cz:N<=1000:=ay.2;have c0:=r.c0;have c1:=r.c1;have c2:=r.c2;have f2:=r.fz 10;rw[<-b.o.2.2.2.2.2.1] at c2;have J:=f;have x0:=(J.2 0 _ rfl);have x1:=(J.2 1 _ rfl);have hf:f0<N:=by omega
   clear J hq r f d0 d1 d2 d3 V I S bp ag U bh aw hr cr Q O q HL;go_wp2_with fail
   refine QGt 2 ?_;rw[QGv];go_wp2_with fail
   obtain⟨X,l⟩:∃X,X=w4.alloc (.cells #[.int .u64 x.run,.int .i64 x.node] 274):=⟨_,rfl⟩
   try rw[<-l]
   (obtain⟨z0,z1⟩:=(show _/\_ from l▸Zcy w4 x.run x.node))
   have t:ZY w4 X:=by rw[l];exact ZV.alloc ZU _
   have H1:=H4.o.1.below t;have c0:=H1.c0;have c1:=H1.c1;have c2:=H1.c2;have f2:=H1.fz 10;rw[<-H4.o.2.2] at c2;have s:(f0+m) % N<N:=QBw _ (by omega);have e1:wrap64 ((f0:Int)+(m:Int))=((f0+m:Nat):Int):=by unfold wrap64;omega
   have e2:((f0+m:Nat):Int).tmod (N:Int)=(((f0+m) % N:Nat):Int):=rfl;have p:(f0+m) % N<D.length:=by rw[H1.len];exact s
   obtain⟨pos,i⟩:∃pos,pos=(f0+m) % N:=⟨_,rfl⟩;have au:((f0:Int)+(m:Int)) % (N:Int)=(pos:Int):=by rw[i];norm_cast
   have bw:((pos:Nat):Int)<(N:Int):=by omega
   rw[<-i] at e2 s p;obtain⟨y,K⟩:∃y,D[pos]? =some y:=⟨_,ZZ p⟩
   have d:∀j u,(AX y)[j]? =some u->X.cell? ⟨nb,pos * 2+j,none⟩=some u:=by
    intro j u L;have T:j<2:=by have:=(List.getElem?_eq_some_iff.1 L).1;rwa[Zbp] at this
    have cu:pos * 2+2<=N * 2:=by have:=QEy 2 (show pos+1<=N by omega);omega
    rw[H1.row.cellAt _ (by omega)]
    have e5:D.flatMap AX=(D.take pos).flatMap AX++(AX y++(D.drop (pos+1)).flatMap AX):=by
     conv=>lhs;rw[<-QHc pos D,QHd p]
     rw[QHe,QDh];rw[ZZ p] at K;simp only[QCf] at K;rw[K]
    rw[e5,QBe (by rw[Zaq,QBf,QEx (by omega)];omega),Zaq,QBf,QEx (by omega),QHf,QBg (by rw[Zbp];exact T)];exact L
   have v:∀j,X.frozen? ⟨nb,pos * 2+j,none⟩=false:=fun j=>H1.row.frozenAt _;have t0:=d 0 _ rfl;have t1:=d 1 _ rfl;have t2:=v 0;have t3:=v 1
   try simp only[QBl] at t0 t2
   have cm:nb≠P:=by
    have:=(H1.row.lt nb rfl).1;have:=H1.pb;omega
   have HH:=Zz (Zq H1 (Zq t i));clear H1 t l i d v K
   go_region
   all_goals
    go_wp2_with fail
    rw[QGv];go_wp2_with fail
    go_end0
    obtain⟨q1,q2,q3⟩:=HH.o;have hm:=H4.o.2.2;have hp:=q1.CU (by omega) x;rw[<-hm,<-q3] at hp
    try rw[QHg] at hp
    refine⟨rfl,some ⟨nb,0,none⟩,N,N,f0,_,hp.1,(E.o.1.trans (RF.Ae P _ 8 11 q2) (fun k hk=>Zu hk)).trans hp.2 (fun k hk=>Zj (by simp only[QCf] at hk;have:=E.o.2;omega)),fun k hk=>Zj (by simp only[QCi,QCf] at hk;have:=E.o.2;omega)⟩
  .have ag:¬(2 * (n:Int)<=(m:Int)+1):=by have:=b.o.2.2.2.2.2.2.2.1;omega
   have cy:max ((m:Int)+1) (2 * (n:Int))=2 * (n:Int):=Int.max_eq_right (by omega);have eN:(N:Int)=2 * (n:Int):=by omega
   rw[eN] at U;clear hA ck eN
   go_enter func191,ntmps191
   go_upto_region 3 with fail
   try rw[<-b.o.2.2.1]
   go_upto_region 4 with (go_at_call 211;refine HL.o.mono ?_;rintro e W ⟨a3,c3,rfl,G,A⟩;have bf:=NO ((A.block nb (Zaa b.o.2.1)).trans b.o.2.1) G b.o.2.2.2.2.2.1 (by have:=b.o.2.2.2.2.2.2.1;omega) (QGw _ _);have q:=Zz (Zq A G);have c0:=QFa A Y;clear A G)
   clear bf;have Q:=Zz (b.o.2.2.2.1.grown (N:=N) (b.o.1.trans' q.o.1) (by have:=b.o.2.2.1;omega) ((q.o.1.block nb (Zaa b.o.2.1)).trans b.o.2.1) (by have:=b.o.2.2.2.2.2.1;have:=b.o.2.2.2.2.2.2.1;omega));have f:=b.o.2.2.2.2.1.below (b.o.1.trans' q.o.1);have z:∀o,(W.setCells nb 0 (xs.flatMap AX)).frozen? ⟨P,o,none⟩=false:=fun o=>(QDx (a:=⟨P,o,none⟩) ((Zap nb P (by have:=b.o.2.2.1;have:=b.o.2.2.2.1.pb;have:=b.o.2.2.2.1.bs;omega) _ _ _).trans ((b.o.1.trans' q.o.1).block P (by have:=b.o.2.2.2.1.pb;have:=b.o.2.2.2.1.bs;omega)))).trans (b.o.2.2.2.1.fz o)
   have F:∀o,(W.setCells nb 0 (xs.flatMap AX)).cell? ⟨P,o,none⟩=w.cell? ⟨P,o,none⟩:=fun o=>QEc (a:=⟨P,o,none⟩) ((Zap nb P (by have:=b.o.2.2.1;have:=b.o.2.2.2.1.pb;have:=b.o.2.2.2.1.bs;omega) _ _ _).trans ((b.o.1.trans' q.o.1).block P (by have:=b.o.2.2.2.1.pb;have:=b.o.2.2.2.1.bs;omega)))
   have R:FT (((W.setCells nb 0 (xs.flatMap AX)).setCell ⟨P,8,none⟩ (.slice (some ⟨nb,0,none⟩) N N)).setCell ⟨P,9,none⟩ (.int .i64 0)) M x:=by
    refine⟨by simp only[QDw,QGs];rw[(Zbu W nb 0 _).1];exact f.1,fun j u L=> ?_⟩;have bo:M≠nb:=by have:=b.o.2.2.2.2.1.1;have:=b.o.2.2.1;omega
    refine (QGd _ _ _ _ (fun e=>al ((Addr.mk.inj e).1.symm))).trans ((QGd _ _ _ _ (fun e=>al ((Addr.mk.inj e).1.symm))).trans ?_);exact (QEc (a:=⟨M,j,none⟩) (Zap nb M bo _ _ _)).trans (f.2 j u L)
   have d0:=(F 8).trans Z;have d1:=(F 9).trans c1;have d2:=z 8;have d3:=z 9;have O:=Zz R;clear f z F R c0 Y Z
   generalize bp:W.setCells nb 0 (xs.flatMap AX)=br at *
   go_upto_region 5 with fail
   obtain⟨w4,I⟩:∃w4,w4=(br.setCell ⟨P,8,none⟩ (.slice (some ⟨nb,0,none⟩) N N)).setCell ⟨P,9,none⟩ (.int .i64 0):=⟨_,rfl⟩
   try rw[<-I]
   have hq:=Q.o;have f:=O.o;rw[<-I] at hq f;obtain⟨f0,S⟩:∃f0:Nat,f0=0:=⟨_,rfl⟩;obtain⟨D,V⟩:∃D,D=xs++QAw (N - xs.length) (⟨0,0⟩:Ba):=⟨_,rfl⟩;have r:FV w4 P B (some ⟨nb,0,none⟩) N N f0 D xs:=by rw[S,V];exact hq.1
   have H4:=Zz (Zq r (Zq f b.o.2.2.2.2.2.1));have E:=Zz (Zq hq.2 (show w.heap.size<=nb by have:=b.o.2.2.1;omega));have da:m<N:=by omega
   have cz:N<=1000:=ay.2;have c0:=r.c0;have c1:=r.c1;have c2:=r.c2;have f2:=r.fz 10;rw[<-b.o.2.2.2.2.2.1] at c2;have J:=f;have x0:=(J.2 0 _ rfl);have x1:=(J.2 1 _ rfl);have hf:f0<N:=by omega
   clear J hq r f d0 d1 d2 d3 V I S bp ag U bh aw hr cr Q O q HL;go_wp2_with fail
   refine QGt 2 ?_;rw[QGv];go_wp2_with fail
   obtain⟨X,l⟩:∃X,X=w4.alloc (.cells #[.int .u64 x.run,.int .i64 x.node] 274):=⟨_,rfl⟩
   try rw[<-l]
   (obtain⟨z0,z1⟩:=(show _/\_ from l▸Zcy w4 x.run x.node))
   have t:ZY w4 X:=by rw[l];exact ZV.alloc ZU _
   have H1:=H4.o.1.below t;have c0:=H1.c0;have c1:=H1.c1;have c2:=H1.c2;have f2:=H1.fz 10;rw[<-H4.o.2.2] at c2;have s:(f0+m) % N<N:=QBw _ (by omega);have e1:wrap64 ((f0:Int)+(m:Int))=((f0+m:Nat):Int):=by unfold wrap64;omega
   have e2:((f0+m:Nat):Int).tmod (N:Int)=(((f0+m) % N:Nat):Int):=rfl;have p:(f0+m) % N<D.length:=by rw[H1.len];exact s
   obtain⟨pos,i⟩:∃pos,pos=(f0+m) % N:=⟨_,rfl⟩;have au:((f0:Int)+(m:Int)) % (N:Int)=(pos:Int):=by rw[i];norm_cast
   have bw:((pos:Nat):Int)<(N:Int):=by omega
   rw[<-i] at e2 s p;obtain⟨y,K⟩:∃y,D[pos]? =some y:=⟨_,ZZ p⟩
   have d:∀j u,(AX y)[j]? =some u->X.cell? ⟨nb,pos * 2+j,none⟩=some u:=by
    intro j u L;have T:j<2:=by have:=(List.getElem?_eq_some_iff.1 L).1;rwa[Zbp] at this
    have cu:pos * 2+2<=N * 2:=by have:=QEy 2 (show pos+1<=N by omega);omega
    rw[H1.row.cellAt _ (by omega)]
    have e5:D.flatMap AX=(D.take pos).flatMap AX++(AX y++(D.drop (pos+1)).flatMap AX):=by
     conv=>lhs;rw[<-QHc pos D,QHd p]
     rw[QHe,QDh];rw[ZZ p] at K;simp only[QCf] at K;rw[K]
    rw[e5,QBe (by rw[Zaq,QBf,QEx (by omega)];omega),Zaq,QBf,QEx (by omega),QHf,QBg (by rw[Zbp];exact T)];exact L
   have v:∀j,X.frozen? ⟨nb,pos * 2+j,none⟩=false:=fun j=>H1.row.frozenAt _;have t0:=d 0 _ rfl;have t1:=d 1 _ rfl;have t2:=v 0;have t3:=v 1
   try simp only[QBl] at t0 t2
   have cm:nb≠P:=by
    have:=(H1.row.lt nb rfl).1;have:=H1.pb;omega
   have HH:=Zz (Zq H1 (Zq t i));clear H1 t l i d v K
   go_region
   all_goals
    go_wp2_with fail
    rw[QGv];go_wp2_with fail
    go_end0
    obtain⟨q1,q2,q3⟩:=HH.o;have hm:=H4.o.2.2;have hp:=q1.CU (by omega) x;rw[<-hm,<-q3] at hp
    try rw[QHg] at hp
    refine⟨rfl,some ⟨nb,0,none⟩,N,N,f0,_,hp.1,(E.o.1.trans (RF.Ae P _ 8 11 q2) (fun k hk=>Zu hk)).trans hp.2 (fun k hk=>Zj (by simp only[QCf] at hk;have:=E.o.2;omega)),fun k hk=>Zj (by simp only[QCi,QCf] at hk;have:=E.o.2;omega)⟩
