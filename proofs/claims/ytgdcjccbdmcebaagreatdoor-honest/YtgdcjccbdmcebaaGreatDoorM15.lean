import Derived.Test.YtgdcjccbdmcebaaGreatDoorM05
import Derived.Laws.ResultCell
set_option linter.all false
set_option maxHeartbeats 8000000
set_option maxRecDepth 100000
open Array renaming getElem?_eq_getElem->QIl,size_modify->QGs,length_toList->QGr
open Go renaming wp_loop_rounds->QGt,madeCells->QGu,heap_alloc_new->QFm,rounds_succ->QGv,cell_later->QFa,size_madeCells->QGw
open Go.RowKit renaming ownsRow_setCell_below->QDu
open Go.Value renaming ownBlock->QCi,slice->QFv,slice.injEq->QGx
open Go.World renaming setCells->QEi,ownsRow_nil->QEj,frozen?->QHj,cell?_setCell_other->QGd,cell?->QEk,cell?_setCell_same->QDz,setCell->QDw,frozen?_of_block->QDx,frozen?_setCell->QEa,cell?_of_block->QEc
open List renaming range->QAr,drop_take->QHl,take_take->QGf,take_zero->QGy,nil_append->QGz,take_append->QCr,getElem?_take_of_lt->QBb,length_set->QAo,eq_nil_of_length_eq_zero->QHa,length_drop->QAx,take_append_of_le_length->QHb,set_eq_take_append_cons_drop->QIm,length_cons->QAs,take_append_drop->QHc,flatMap_cons->QDh,drop_eq_getElem_cons->QHd,getElem?_append_left->QBg,getElem?_append_right->QBe,take_of_length_le->QCw,replicate->QAw,flatMap_append->QHe,length_take->QBf
open Nat renaming mod_lt->QBw,add_zero->QBl,add_mul->QBi,zero_add->QDk,min_le_left->QHh,add_sub_cancel_left->QHf,mul_one->QHg,min_eq_left->QEx,mul_le_mul_right->QEy
open Option renaming some.injEq->QCf
namespace Go.Proofs.YtgdcjccbdmcebaaGreatDoor
open Tryz
open Go.RowKit
attribute [local go_sem ↓] Go.wp_at_zero Go.wp_at_succ
variable {a:Option Addr}{w w':World}{ys xs:List Int}{Na:Nat->Option Addr}{B c n P qh:Nat}{Nc:Nat->Nat}{f k:Int}{F:Ad}{ob:Option Nat}
theorem madeTU (n:Nat):(QGu (.int .u64 0:Value).cells (n * 1)).toList=(QAw n (0:Int)).flatMap AF:=by
 rw[<-KS,<-Zb5]
 rfl
theorem Pz (w:World)(ty:TypeId)(b o d g m:Nat)(a:Addr)(e h:Nat)(cur:Array Value)(i:List Int)(hw:w.heap[b]? =some (.cells cur 27 (0,0)))(hm:Nat.min e d=m)(q:i.length=m)(l:o+m * 1<=cur.size)
  (hsrc:∀j v,(i.flatMap AF)[j]? =some v->w.cell? (a.add j)=some v) :
  (Builtin.copy_ #[75,75] ty #[.slice (some ⟨b,o,none⟩) d g,.slice (some a) e h]).run prog w=.ok (goInt m) (w.setCells b o (i.flatMap AF)):=by
 have hl:=Zav i;refine KB w 75 75 ty 27 1 m b o d g a e h (i.flatMap AF) underlying75 QQ hm (by omega) hsrc (fun j p=> ?_) (fun j _=> ?_) (Pk i)
 .unfold QEk
  rw[hw];simp only[QIl (show o+j<cur.size by omega)]
  rfl
 .simp[QHj,hw]
theorem Zdl (g:Nat)(e:TypeId):∀(d:List Value) (o:Nat) (w:World) (cur:Array Value),w.heap[g]? =some (.cells cur e (0,0))->o+d.length<=cur.size->∃b,(w.setCells g o d).heap[g]? =some (.cells b e (0,0))/\b.size=cur.size/\b.toList=cur.toList.take o++d++cur.toList.drop (o+d.length)
 | [],o,w,cur,h,_=>⟨cur,h,rfl,by simp⟩
 | v::r,o,w,cur,h,hl=>by
  have i:(w.setCell ⟨g,o,none⟩ v).heap[g]? =some (.cells (cur.setIfInBounds o v) e (0,0)):=by
   simp[QDw,Array.getElem?_modify,h]
  obtain⟨b,j,l,m⟩:=Zdl g e r (o+1) (w.setCell ⟨g,o,none⟩ v) (cur.setIfInBounds o v) i (by simp at hl ⊢;omega);refine⟨b,j,by simpa using l,?_⟩;simp only[QAs] at hl ⊢;have p:o<cur.toList.length:=by simp;omega
  rw[m,Array.toList_setIfInBounds,List.take_set,List.take_add_one,ZZ p,Option.toList_some,List.set_append_right _ _ (by simp;omega),List.drop_set_of_lt (by omega)];have:o - (List.take o cur.toList).length=0:=by simp;omega
  rw[this,show o+(r.length+1)=o+1+r.length by omega];simp
theorem Zbt (w:World)(g o:Nat)(b:List Value):(w.setCells g o b).heap.size=w.heap.size/\(w.setCells g o b).os=w.os/\(w.setCells g o b).tape=w.tape/\(w.setCells g o b).output=w.output:=by
 induction b generalizing o w with
 | nil=>exact⟨rfl,rfl,rfl,rfl⟩
 | cons v r j =>
  obtain⟨d,e,h,i⟩:=j (w.setCell ⟨g,o,none⟩ v) (o+1);rw[QEi];exact⟨by rw[d];simp[QDw],e,h,i⟩
theorem Zau (g k:Nat)(hk:k≠g):∀(b:List Value) (o:Nat) (w:World),(w.setCells g o b).heap[k]? =w.heap[k]?
 | [],_,_=>rfl
 | v::r,o,w=>by rw[QEi,Zau g k hk r];exact Zl w ⟨g,o,none⟩ v k hk
theorem EI {k:Nat}(h:Below k w w')(g o:Nat)(b:List Value)(hg:k<=g):Below k w (w'.setCells g o b):=by
 obtain⟨d,e,i,l⟩:=Zbt w' g o b;exact⟨e.trans h.os,i.trans h.tape,l.trans h.output,by rw[d];exact h.size,fun j m=>(Zau g j (by omega) b o w').trans (h.block j m)⟩
theorem Qk (w:World)(P B n c first:Nat)(a:Option Addr)(ys xs:List Int)(h:Gv w P B a n c first ys xs) :
  Calls prog 258 #[.pointer (some ⟨P,5,none⟩)] w fun e w'=>∃a' c',e=.returned (.slice a' xs.length c')/\w'.ownsRow w.heap.size 27 1 (.slice a' xs.length c') xs.length (xs.flatMap AF)/\ZY w w':=by
 obtain⟨m,hm⟩:∃m,m=xs.length:=⟨_,rfl⟩;have c0:=h.c0;have c1:=h.c1;have c2:=h.c2;have hlen:=h.len;have b:=h.ring;have bh:=h.Br;have hf:=b.Br;have bo:m<=n:=by omega
 rw[<-hm] at c2 ⊢;have R:=EM w P m c2;have HE:=Zz R;by_cases h0:m=0
 .subst h0
  have W:xs=[]:=QHa hm.symm;have HX:=Zz W;clear hm W b hf R
  go_enter func258,ntmps258
  go_wp2_with (go_at_call 195;refine HE.o.mono ?_;rintro e J ⟨rfl,t⟩;rw[t])
  go_ret
  exact⟨none,0,rfl,by rw[HX.o];exact QEj _ _ _ _,Zk _ _⟩
 .obtain⟨g,cur,rfl,hg,az,aw,Y⟩:∃g cur,a=some ⟨g,0,none⟩/\B<=g/\n<=c/\c<=maxLen/\w.heap[g]? =some (.cells cur 27 (0,0)):=by
   rcases h.row.2 with⟨G,h3⟩ | ⟨g,cap,cur,G,hg,hh,h3,h4,_⟩
   .simp only[QGx] at G
    omega
   .obtain⟨rfl,_,rfl⟩:a=some ⟨g,0,none⟩/\n=n/\c=cap:=by simpa using G
    exact⟨g,cur,rfl,hg,h3,h4,hh⟩
  have l:∀j,j<n * 1->w.cell? ⟨g,j,none⟩=(ys.flatMap AF)[j]? :=fun j hj=>h.row.cellAt j hj
  have bj:first<n:=by
   rcases b.Ee with X | ⟨_,G⟩
   .omega
   .subst G;simp at hlen;omega
  have Z:g<w.heap.size:=(Array.getElem?_eq_some_iff.1 Y).1;have ag:=b.list;unfold maxLen at aw;have ay:=VJ w m (by omega);have E:=Zz (Zq hm (Zq ag (Zq hlen l)));have HP:=Zz (Zq h.pb h.bs);obtain⟨u,H⟩:∃u,u=w.heap.size:=⟨_,rfl⟩;obtain⟨J,t⟩:∃J,J=w.alloc (.cells (QGu (.int .u64 0:Value).cells (m * 1)) 27):=⟨_,rfl⟩;rw[<-H,<-t] at ay;have r:ZY w J:=by rw[t];exact ZV.alloc ZU _
  have S:J.heap[u]? =some (.cells (QGu (.int .u64 0:Value).cells (m * 1)) 27 (0,0)):=by rw[t,H];exact QFm w _
  have c0:=QFa r c0;have c1:=QFa r c1;have c2:=QFa r c2;have i:=Zz (Zq r (Zq H S));have al:=Zz h.c0;have g0:decide (m=0)=false:=decide_eq_false h0;have g1:(first:Int)<=(n:Int):=by omega
  have g2:¬(c=first):=by omega
  have g3:n<=c:=az;obtain⟨m1,s⟩:∃m1,m1=Nat.min (n - first) m:=⟨_,rfl⟩;have ae:m1<=m:=by rw[s];exact Nat.min_le_right _ _
  have p:∀j v,(((ys.drop first).take m1).flatMap AF)[j]? =some v->J.drew.cell? (Addr.add ⟨g,first * 1,none⟩ j)=some v:=by
   intro j v hv
   have hj:j<m1 * 1:=by
    have:=(List.getElem?_eq_some_iff.1 hv).1;rw[Zav,QBf] at this;have:=QHh m1 (ys.drop first).length;omega
   have z:m1<=n - first:=by rw[s];exact QHh _ _
   rw[Zcg];refine (QEc (a:=⟨g,first * 1+j,none⟩) (r.block g Z)).trans ?_;rw[l _ (by omega),<-hv,<-Fw,<-Fv,QBb hj,List.getElem?_drop]
  have U:((ys.drop first).take m1).length=m1:=by
   rw[QBf,QAx,hlen];have:m1<=n - first:=by rw[s];exact QHh _ _
   omega
  have M:=fun ty=>Pz J.drew ty u 0 m m m1 ⟨g,first * 1,none⟩ (n - first) (c - first) _ ((ys.drop first).take m1) S s.symm U (by rw[QGw];omega) p
  have y:=Zz (Zq p (Zq U s))
  try simp only[QHg] at M
  clear t hm ag hlen l b hf R Y p U r S h H s
  go_enter func258,ntmps258
  go_upto_region 4 with (go_at_call 195;refine HE.o.mono ?_;rintro e w9 ⟨rfl,bf⟩;rw[bf])
  try rw[<-i.o.2.1]
  go_region
  obtain⟨K,I⟩:∃K,K=J.drew.setCells u 0 (((ys.drop first).take m1).flatMap AF):=⟨_,rfl⟩
  try rw[<-I]
  have q:=Zav ((ys.drop first).take m1);have Q:ZY w K:=by rw[I];exact EI i.o.1.drew _ _ _ (by have:=i.o.2.1;omega)
  obtain⟨d,k1,k2,k3⟩:=Zdl u 27 (((ys.drop first).take m1).flatMap AF) 0 J.drew _ i.o.2.2 (by rw[QGw,q,y.o.2.1,QDk];exact QEy _ ae);rw[<-I] at k1;rw[QGw] at k2
  have aj:d.toList.take (m1 * 1)=((ys.drop first).take m1).flatMap AF:=by
   rw[k3];simp only[QGy,QGz];rw[QHb (by rw[q,y.o.2.1];exact Zx _),QCw (by rw[q,y.o.2.1];exact Zx _)]
  have x:=Zz (Zq Q (Zq k1 (Zq k2 aj)));have au:P<w.heap.size:=by have:=HP.o;omega
  have c0:=(QEc (a:=⟨P,5,none⟩) (Q.block P au)).trans (al.o);clear M k1 k2 k3 aj I Q q c1 c2;by_cases X:m1=m
  .subst X
   have N:∀A C,∀ty,(Builtin.copy_ #[75,75] ty #[.slice A 0 C,.slice (some ⟨g,0,none⟩) n c]).run prog K.drew=.ok (goInt 0) K.drew:=fun A C ty=>Zcz K.drew 75 75 ty 27 1 A _ 0 C n c underlying75 QQ (Nat.min_zero _);go_wp2_with fail
   go_region
   go_wp2_with fail
   go_ret
   obtain⟨q1,q2,q3,q4⟩:=x.o;obtain⟨x1,x2,x3,_⟩:=E.o
   have hle:m1<=n - first:=by
    have:=y.o.2.2;rw[this];exact QHh _ _
   have W:xs.flatMap AF=d.toList.take (m1 * 1):=by
    rw[q4,x2,<-x1,show m1 - (ys.length - first)=0 by omega];simp
   refine⟨some ⟨u,0,none⟩,m1,rfl,⟨by rw[Zav,<-x1],Zj ⟨u,m1,d,rfl,by have:=i.o.2.1;omega,q2,Zx _,by unfold maxLen;omega,q3,W.symm⟩⟩,⟨q1.os,q1.tape,q1.output,q1.size,q1.block⟩⟩
  .have z:m1=n - first:=by
    have:=y.o.2.2;rcases Nat.le_total (n - first) m with G | G
    .rw[this];exact QEx G
    .exact absurd (this.trans (Nat.min_eq_right G)) X
   obtain⟨m2,T⟩:∃m2,m2=m - m1:=⟨_,rfl⟩
   have D:∀j v,((ys.take m2).flatMap AF)[j]? =some v->K.drew.cell? (Addr.add ⟨g,0,none⟩ j)=some v:=by
    intro j v hv
    have hj:j<m2 * 1:=by
     have:=(List.getElem?_eq_some_iff.1 hv).1;rw[Zav,QBf] at this;have:=QHh m2 ys.length;omega
    rw[Zcg];refine (QEc (a:=⟨g,0+j,none⟩) (x.o.1.block g Z)).trans ?_;rw[E.o.2.2.2 _ (by omega),<-hv,<-Fw,QBb hj,QDk]
   have V:(ys.take m2).length=m2:=by rw[QBf,E.o.2.2.1];omega
   have N:=fun ty=>Pz K.drew ty u (m1 * 1) m2 m2 m2 ⟨g,0,none⟩ n c d (ys.take m2) x.o.2.1 (by show min n m2=m2;omega) V (by rw[x.o.2.2.1,<-QBi];exact QEy _ (by omega)) D
   try simp only[QHg] at N
   have g5:(m1:Int)<=(m:Int):=by omega
   have g6:m - m1=m2:=T.symm;have g7:¬(m=m1):=fun e=>X e.symm;have ar:=Zz (Zq T (Zq z V));clear D z V T X;go_wp2_with fail
   go_region
   go_wp2_with fail
   go_ret
   obtain⟨q1,q2,q3,q4⟩:=x.o;obtain⟨x1,x2,x3,_⟩:=E.o;obtain⟨y1,y2,y3⟩:=ar.o;have O:=Zav (ys.take m2);obtain⟨L,k1,k2,k3⟩:=Zdl u 27 ((ys.take m2).flatMap AF) (m1 * 1) K.drew d q2 (by rw[O,y3,q3,<-QBi];exact QEy _ (by omega))
   have W:L.toList.take (m * 1)=xs.flatMap AF:=by
    have e1:m * 1=(d.toList.take (m1 * 1)++(ys.take m2).flatMap AF).length:=by
     rw[ZX,QBf,QGr,q3,O,y3];omega
    rw[k3,e1,QHb ZU,List.take_length,q4,x2,<-x1,QHe,show m - (ys.length - first)=m2 by omega];have hd:(ys.drop first).length<=m:=by rw[QAx];omega
    have ax:(ys.drop first).length<=m1:=by rw[QAx];omega
    rw[QCw hd,QCw ax]
   refine⟨some ⟨u,0,none⟩,m,rfl,⟨by rw[Zav,<-x1],Zj ⟨u,m,L,rfl,by have:=i.o.2.1;omega,(by first | exact k1 | (rw[QHg] at k1;exact k1)),Zx _,by unfold maxLen;omega,by rw[k2,q3],W⟩⟩,?_⟩;exact EI q1.drew _ _ _ (by have:=i.o.2.1;omega)
theorem Xg (ys:List Int)(p:Nat)(x:Int)(hp:p<ys.length):(ys.flatMap AF).take (p * 1)++AF x++(ys.flatMap AF).drop (p * 1+1)=(ys.set p x).flatMap AF:=by
 rw[Fw,show p * 1+1=(p+1) * 1 by omega,Fv,QIm,if_pos hp,QHe,QDh,List.append_assoc]
theorem To {g p:Nat}(h:w.ownsRow B 27 1 (.slice (some ⟨g,0,none⟩) n c) n (ys.flatMap AF))(hl:ys.length=n)(hp:p<n)(x:Int):(w.setCells g (p * 1) (AF x)).ownsRow B 27 1 (.slice (some ⟨g,0,none⟩) n c) n ((ys.set p x).flatMap AF):=by
 rcases h.2 with⟨e,_⟩ | ⟨l,cap,cur,e,hg,hh,i,m,s,o⟩
 .cases e
 .obtain⟨rfl,rfl⟩:g=l/\c=cap:=by simpa using e
  have r:p * 1+1<=n * 1:=by have:=QEy 1 (show p+1<=n by omega);omega
  have q:n * 1<=c * 1:=QEy _ i;have b:=Zbq x;obtain⟨d,k1,k2,k3⟩:=Zdl g 27 (AF x) (p * 1) w cur hh (by omega);refine⟨by rw[Zav,QAo,hl],Zj ⟨g,c,d,rfl,hg,k1,i,m,by omega,?_⟩⟩;rw[<-Xg ys p x (by omega),<-o,k3,b];have j:(cur.toList.take (n * 1)).take (p * 1)=cur.toList.take (p * 1):=by rw[QGf,QEx (by omega)]
  rw[j,QCr,QCw (by rw[ZX,QBf,QGr,b];omega),ZX,QBf,QGr,b,QEx (by omega),QHl]
theorem Gv.frame {first:Nat}(h:Gv w P B a n c first ys xs)(j:w.heap.size<=w'.heap.size)(d:∀o,5<=o->o<8->w'.cell? ⟨P,o,none⟩=w.cell? ⟨P,o,none⟩)(hf:∀o,w'.frozen? ⟨P,o,none⟩=w.frozen? ⟨P,o,none⟩)(i:∀z,(QFv a n c).ownBlock=some z->w'.heap[z]? =w.heap[z]?):Gv w' P B a n c first ys xs:=by
 refine⟨(d 5 (by omega) (by omega)).trans h.c0,(d 6 (by omega) (by omega)).trans h.c1,(d 7 (by omega) (by omega)).trans h.c2,fun o=>(hf o).trans (h.fz o),⟨h.row.1,?_⟩,h.len,h.ring,h.Br,h.pb,Zv h.bs j⟩;rcases h.row.2 with b | ⟨g,cap,cur,b,hg,hh,e⟩
 .exact Zu b
 .exact Zj ⟨g,cap,cur,b,hg,(i g (by rw[b];rfl)).trans hh,e⟩
theorem Gv.below {first:Nat}(h:Gv w P B a n c first ys xs)(hb:ZY w w'):Gv w' P B a n c first ys xs:=by
 have b:P<w.heap.size:=Zy h.pb h.bs;exact h.frame hb.size (fun o _ _=>QEc (a:=⟨P,o,none⟩) (hb.block P b)) (fun o=>QDx (a:=⟨P,o,none⟩) (hb.block P b)) (fun z d=>hb.block z (h.row.lt z d).2)
theorem Gv.CU {g first:Nat}(h:Gv w P B (some ⟨g,0,none⟩) n c first ys xs)(q:xs.length<n)(x:Int) :
  Gv (((w.setCells g ((first+xs.length) % n * 1) (AF x)).setCell ⟨P,7,none⟩ (.int .i64 (xs.length+1:Nat))).drew) P B (some ⟨g,0,none⟩) n c first (ys.set ((first+xs.length) % n) x) (xs++[x])/\RF w (((w.setCells g ((first+xs.length) % n * 1) (AF x)).setCell ⟨P,7,none⟩ (.int .i64 (xs.length+1:Nat))).drew) P (some g) 5 8:=by
 have d:g≠P:=by
  have:=(h.row.lt g rfl).1;have:=h.pb;omega
 have i:(first+xs.length) % n<n:=QBw _ (by omega);have j:=To h.row h.len i x;have l:∀o,(w.setCells g ((first+xs.length) % n * 1) (AF x)).cell? ⟨P,o,none⟩=w.cell? ⟨P,o,none⟩:=fun o=>QEc (a:=⟨P,o,none⟩) (Zau g P (Ne.symm d) _ _ _);have b:∀o,(w.setCells g ((first+xs.length) % n * 1) (AF x)).frozen? ⟨P,o,none⟩=w.frozen? ⟨P,o,none⟩:=fun o=>QDx (a:=⟨P,o,none⟩) (Zau g P (Ne.symm d) _ _ _);obtain⟨s1,s2,s3,r⟩:=Zbt w g ((first+xs.length) % n * 1) (AF x);have hlen:=h.len
 generalize p:w.setCells g ((first+xs.length) % n * 1) (AF x)=w1 at *
 refine⟨⟨?_,?_,?_,fun o=> ?_,?_,by rw[QAo];exact h.len,?_,h.Br,h.pb,?_⟩,?_⟩
 .exact (Zac w1 P 7 5 _ (by decide)).trans ((l 5).trans h.c0)
 .exact (Zac w1 P 7 6 _ (by decide)).trans ((l 6).trans h.c1)
 .rw[ZX,List.length_singleton]
  exact QDz w1 ⟨P,7,none⟩ _ ((l 7).trans h.c2)
 .exact (QEa w1 ⟨P,7,none⟩ _ _).trans ((b o).trans (h.fz o))
 .exact (QDu j h.pb _).drew
 .have:=h.ring.push (by omega) x
  rw[hlen] at this;exact this
 .show B<=(QDw w1 ⟨P,7,none⟩ _).heap.size
  simp only[QDw,QGs];rw[s1];exact h.bs
 .refine⟨s2,s3,r,?_,fun k hk m q=> ?_,fun _ o s=> ?_,fun _ o=> ?_⟩
  .show w.heap.size<=(QDw w1 ⟨P,7,none⟩ _).heap.size
   simp only[QDw,QGs];rw[s1];exact Zx _
  .refine (Zl w1 ⟨P,7,none⟩ _ k m).trans ?_
   rw[<-p];exact Zau g k (fun e=>q (by rw[e])) _ _ _
  .exact (Zac w1 P 7 o _ (by omega)).trans (l o)
  .exact (QEa w1 ⟨P,7,none⟩ _ _).trans (b o)
theorem NP {b N m:Nat}{cur:Array Value}(hw:w.heap[b]? =some (.cells cur 27 (0,0)))(i:w.ownsRow B 27 1 (.slice a m c) m (xs.flatMap AF))(hm:m=xs.length)(h:m<=N)(q:cur.size=N * 1)(ty:TypeId) :
  (Builtin.copy_ #[75,75] ty #[.slice (some ⟨b,0,none⟩) N N,.slice a m c]).run prog w=.ok (goInt m) (w.setCells b 0 (xs.flatMap AF)):=by
 rcases i.2 with⟨d,s⟩ | ⟨g,cap,e,d,hg,hh,t⟩
 .have o:m=0:=by
   simp only[QGx] at d;omega
  have r:xs=[]:=QHa (by omega);subst r o;exact Zcz w 75 75 ty 27 1 _ a N N 0 c underlying75 QQ (Nat.zero_min _)
 .obtain⟨rfl,_,rfl⟩:a=some ⟨g,0,none⟩/\m=m/\c=cap:=by simpa using d
  refine Pz w ty b 0 N N m ⟨g,0,none⟩ m c cur xs hw (QEx h) hm.symm (by rw[q,QDk];exact QEy _ h) (fun j v l=> ?_)
  have p:j<m * 1:=by
   have:=(List.getElem?_eq_some_iff.1 l).1;rw[Zav] at this;rw[hm];exact this
  rw[Zcg,QDk,i.cellAt j p];exact l
theorem Gv.grown {e:World}{first nb N:Nat}(h:Gv w P B a n c first ys xs)(hb:ZY w e)(l:w.heap.size<=nb)(hl:e.heap[nb]? =some (.cells (QGu (.int .u64 0:Value).cells (N * 1)) 27 (0,0)))(s:xs.length+1<=N/\N<=1000) :
  Gv (((e.setCells nb 0 (xs.flatMap AF)).setCell ⟨P,5,none⟩ (.slice (some ⟨nb,0,none⟩) N N)).setCell ⟨P,6,none⟩ (.int .i64 0)) P B (some ⟨nb,0,none⟩) N N 0 (xs++QAw (N - xs.length) (0:Int)) xs/\RF w (((e.setCells nb 0 (xs.flatMap AF)).setCell ⟨P,5,none⟩ (.slice (some ⟨nb,0,none⟩) N N)).setCell ⟨P,6,none⟩ (.int .i64 0)) P (QFv a n c).ownBlock 5 8:=by
 have i:P<w.heap.size:=Zy h.pb h.bs;have q:=Zav xs;have v:xs.length * 1<=N * 1:=QEy _ (by omega);obtain⟨d,k1,k2,k3⟩:=Zdl nb 27 (xs.flatMap AF) 0 e _ hl (by rw[QGw];omega);have b:=EI hb nb 0 (xs.flatMap AF) l
 generalize t:e.setCells nb 0 (xs.flatMap AF)=w4 at *
 have p:∀o,w4.cell? ⟨P,o,none⟩=w.cell? ⟨P,o,none⟩:=fun o=>QEc (a:=⟨P,o,none⟩) (b.block P i);have g:∀o,w4.frozen? ⟨P,o,none⟩=w.frozen? ⟨P,o,none⟩:=fun o=>QDx (a:=⟨P,o,none⟩) (b.block P i)
 have m:w4.ownsRow B 27 1 (.slice (some ⟨nb,0,none⟩) N N) N ((xs++QAw (N - xs.length) (0:Int)).flatMap AF):=by
  refine⟨by rw[Zav];simp;omega,Zj ⟨nb,N,d,rfl,Zv h.bs l,k1,Zx _,by unfold maxLen;omega,by rw[k2,QGw],?_⟩⟩;have r:d.toList.take (N * 1)=d.toList:=QCw (by rw[QGr,k2,QGw];exact Zx _);rw[r,k3,madeTU,QGy,QGz,QHe,QDk,q,Fv,List.drop_replicate]
 refine⟨⟨?_,?_,?_,fun o=> ?_,?_,by simp;omega,Bt.MX _ _,s.2,h.pb,?_⟩,⟨b.os,b.tape,b.output,?_,fun k hk j _=> ?_,fun _ o x=> ?_,fun _ o=> ?_⟩⟩
 .rw[Zac _ P 6 5 _ (by decide)]
  exact QDz _ _ _ ((p 5).trans h.c0)
 .exact QDz _ _ _ (u:=.int .i64 first) (by rw[Zac _ P 5 6 _ (by decide)];exact (p 6).trans h.c1)
 .rw[Zac _ P 6 7 _ (by decide),Zac _ P 5 7 _ (by decide)];exact (p 7).trans h.c2
 .rw[QEa,QEa];exact (g o).trans (h.fz o)
 .exact QDu (QDu m h.pb _) h.pb _
 .simp only[QDw,QGs]
  exact Zv h.bs b.size
 .simp only[QDw,QGs]
  exact b.size
 .exact (Zl _ ⟨P,6,none⟩ _ k j).trans ((Zl _ ⟨P,5,none⟩ _ k j).trans (b.block k hk))
 .rw[Zac _ P 6 o _ (by omega),Zac _ P 5 o _ (by omega)];exact p o
 .rw[QEa,QEa];exact g o
def FU (w:World)(v:Nat)(x:Int):Prop:=v<w.heap.size/\∀j u,(AF x)[j]? =some u->w.cell? ⟨v,j,none⟩=some u
theorem FU.below {v:Nat}{x:Int}(h:FU w v x)(hb:ZY w w'):FU w' v x:=⟨Zy h.1 hb.size,fun j u b=>(QEc (a:=⟨v,j,none⟩) (hb.block v h.1)).trans (h.2 j u b)⟩
theorem QH (w:World)(P B n c first O:Nat)(a:Option Addr)(ys xs:List Int)(x:Int)(h:Gv w P B a n c first ys xs)(W:FU w O x)(au:O≠P)(dj:some O≠(QFv a n c).ownBlock)(dh:xs.length<=400) :
  Calls prog 190 #[.pointer (some ⟨P,5,none⟩),.slice (some ⟨O,0,none⟩) 1 1] w fun e w'=>e=.returned (.tuple #[])/\∃a' n' c' aj dd,Gv w' P B a' n' c' aj dd (xs++[x])/\RF w w' P (QFv a n c).ownBlock 5 8/\∀k,(QFv a' n' c').ownBlock=some k->(QFv a n c).ownBlock=some k\/w.heap.size<=k:=by
 obtain⟨m,hm⟩:∃m,m=xs.length:=⟨_,rfl⟩;have de:=h.Br;have hlen:=h.len;have C:=h.ring;have cy:m<=n:=by have:=C.Br;omega
 by_cases hr:m<n
 .obtain⟨g,cur,rfl,hg⟩:∃g cur,a=some ⟨g,0,none⟩/\w.heap[g]? =some (.cells cur 27 (0,0)):=by
   rcases h.row.2 with⟨h2,_⟩ | ⟨g,cap,cur,h2,hg,hh,_⟩
   .simp only[QGx] at h2
    omega
   .obtain⟨rfl,_,rfl⟩:a=some ⟨g,0,none⟩/\n=n/\c=cap:=by simpa using h2
    exact⟨g,cur,rfl,hh⟩
  have hf:first<n:=by
   rcases C.Ee with h1 | ⟨_,h2⟩
   .omega
   .subst h2;simp at hlen;omega
  have c0:=h.c0;have c1:=h.c1;have c2:=h.c2;have f2:=h.fz 7;rw[<-hm] at c2;have H:=Zz (Zq h (Zq W hm));have x0:=(W.2 0 _ rfl);have bo:decide ((n:Int)<((m+1:Nat):Int))=false:=decide_eq_false (by omega);have e3:wrap64 ((m:Int)+1)=((m+1:Nat):Int):=by unfold wrap64;omega
  clear h W C hlen hg hm
  go_enter func190,ntmps190
  go_wp2_with fail
  refine QGt 2 ?_;rw[QGv];go_wp2_with fail
  obtain⟨w1,z⟩:∃w1,w1=w:=⟨_,rfl⟩
  try rw[<-z]
  skip
  have t:ZY w w1:=by rw[z];exact Zk _ _
  have H1:=H.o.1.below t;have c0:=H1.c0;have c1:=H1.c1;have c2:=H1.c2;have f2:=H1.fz 7;rw[<-H.o.2.2] at c2;have s:(first+m) % n<n:=QBw _ (by omega);have e1:wrap64 ((first:Int)+(m:Int))=((first+m:Nat):Int):=by unfold wrap64;omega
  have e2:((first+m:Nat):Int).tmod (n:Int)=(((first+m) % n:Nat):Int):=rfl;have p:(first+m) % n<ys.length:=by rw[H1.len];exact s
  obtain⟨pos,l⟩:∃pos,pos=(first+m) % n:=⟨_,rfl⟩;have ax:((first:Int)+(m:Int)) % (n:Int)=(pos:Int):=by rw[l];norm_cast
  have cm:((pos:Nat):Int)<(n:Int):=by omega
  rw[<-l] at e2 s p;obtain⟨y,L⟩:∃y,ys[pos]? =some y:=⟨_,ZZ p⟩
  have d:∀j u,(AF y)[j]? =some u->w1.cell? ⟨g,pos * 1+j,none⟩=some u:=by
   intro j u M;have U:j<1:=by have:=(List.getElem?_eq_some_iff.1 M).1;rwa[Zbq] at this
   have cz:pos * 1+1<=n * 1:=by have:=QEy 1 (show pos+1<=n by omega);omega
   rw[H1.row.cellAt _ (by omega)]
   have e5:ys.flatMap AF=(ys.take pos).flatMap AF++(AF y++(ys.drop (pos+1)).flatMap AF):=by
    conv=>lhs;rw[<-QHc pos ys,QHd p]
    rw[QHe,QDh];rw[ZZ p] at L;simp only[QCf] at L;rw[L]
   rw[e5,QBe (by rw[Zav,QBf,QEx (by omega)];omega),Zav,QBf,QEx (by omega),QHf,QBg (by rw[Zbq];exact U)];exact M
  have E:∀j,w1.frozen? ⟨g,pos * 1+j,none⟩=false:=fun j=>H1.row.frozenAt _;have t0:=d 0 _ rfl;have t2:=E 0
  try simp only[QBl,QHg] at t0 t2
  have cr:g≠P:=by
   have:=(H1.row.lt g rfl).1;have:=H1.pb;omega
  have HH:=Zz (Zq H1 (Zq t l));clear H1 t z l d E L
  go_region
  all_goals
   go_wp2_with fail
   rw[QGv];go_wp2_with fail
   go_end0
   obtain⟨q1,q2,q3⟩:=HH.o;have hm:=H.o.2.2;have hp:=q1.CU (by omega) x;rw[<-hm,<-q3] at hp
   try rw[QHg] at hp
   refine⟨rfl,some ⟨g,0,none⟩,n,c,first,_,hp.1,(RF.Ae P _ 5 8 q2).trans hp.2 (fun k hk=>Zu hk),fun k hk=>Zu hk⟩
 .have az:m=n:=by omega
  obtain⟨N,hN⟩:∃N,N=max (n+1) (2 * n):=⟨_,rfl⟩;have bf:m+1<=N/\N<=1000:=by omega
  have ew:wrap64 (2 * (n:Int))=2 * (n:Int):=by unfold wrap64;omega
  have bo:decide ((n:Int)<((m+1:Nat):Int))=true:=decide_eq_true (by omega);have ay:decide ((n:Int)<(m:Int)+1)=true:=decide_eq_true (by omega);have e3:wrap64 ((m:Int)+1)=((m+1:Nat):Int):=by unfold wrap64;omega
  have c0:=h.c0;have c1:=h.c1;have c2:=h.c2;rw[<-hm] at c2;have V:=VJ w N (by omega);obtain⟨nb,ar⟩:∃nb,nb=w.heap.size:=⟨_,rfl⟩;obtain⟨w2,aw⟩:∃w2,w2=w.alloc (.cells (QGu (.int .u64 0:Value).cells (N * 1)) 27):=⟨_,rfl⟩;rw[<-ar,<-aw] at V;have bh:ZY w w2:=by rw[aw];exact ZV.alloc ZU _
  have cu:w2.heap[nb]? =some (.cells (QGu (.int .u64 0:Value).cells (N * 1)) 27 (0,0)):=by rw[aw,ar];exact QFm w _
  have H2:=h.below bh;have bp:=Qk w2 P B n c first a ys xs H2
  rw[<-hm] at bp;have HL:=Zz bp;have b:=Zz (Zq bh (Zq cu (Zq ar (Zq h (Zq W (Zq hm (Zq bf (Zq az H2))))))));have ae:=H2.c0;have ag:=b.o.2.2.2.1.c0;have cq:=hN;clear aw bh cu ar h W hm hlen C bp hN H2 az;by_cases hA:2 * n<=n+1
  .have al:2 * (n:Int)<=(m:Int)+1:=by have:=b.o.2.2.2.2.2.2.2.1;omega
   have da:max ((m:Int)+1) (2 * (n:Int))=(m:Int)+1:=Int.max_eq_left al;have eN:(N:Int)=(m:Int)+1:=by have:=b.o.2.2.2.2.2.2.2.1;omega
   rw[eN] at V;clear hA cq eN
   go_enter func190,ntmps190
   go_upto_region 3 with fail
   try rw[<-b.o.2.2.1]
   go_upto_region 4 with (go_at_call 258;refine HL.o.mono ?_;rintro e Y ⟨a3,c3,rfl,J,A⟩;have bj:=NP ((A.block nb (Zaa b.o.2.1)).trans b.o.2.1) J b.o.2.2.2.2.2.1 (by have:=b.o.2.2.2.2.2.2.1;omega) (QGw _ _);have q:=Zz (Zq A J);have c0:=QFa A ae;clear A J)
   clear bj;have R:=Zz (b.o.2.2.2.1.grown (N:=N) (b.o.1.trans' q.o.1) (by have:=b.o.2.2.1;omega) ((q.o.1.block nb (Zaa b.o.2.1)).trans b.o.2.1) (by have:=b.o.2.2.2.2.2.1;have:=b.o.2.2.2.2.2.2.1;omega));have i:=b.o.2.2.2.2.1.below (b.o.1.trans' q.o.1);have v:∀o,(Y.setCells nb 0 (xs.flatMap AF)).frozen? ⟨P,o,none⟩=false:=fun o=>(QDx (a:=⟨P,o,none⟩) ((Zau nb P (by have:=b.o.2.2.1;have:=b.o.2.2.2.1.pb;have:=b.o.2.2.2.1.bs;omega) _ _ _).trans ((b.o.1.trans' q.o.1).block P (by have:=b.o.2.2.2.1.pb;have:=b.o.2.2.2.1.bs;omega)))).trans (b.o.2.2.2.1.fz o)
   have I:∀o,(Y.setCells nb 0 (xs.flatMap AF)).cell? ⟨P,o,none⟩=w.cell? ⟨P,o,none⟩:=fun o=>QEc (a:=⟨P,o,none⟩) ((Zau nb P (by have:=b.o.2.2.1;have:=b.o.2.2.2.1.pb;have:=b.o.2.2.2.1.bs;omega) _ _ _).trans ((b.o.1.trans' q.o.1).block P (by have:=b.o.2.2.2.1.pb;have:=b.o.2.2.2.1.bs;omega)))
   have S:FU (((Y.setCells nb 0 (xs.flatMap AF)).setCell ⟨P,5,none⟩ (.slice (some ⟨nb,0,none⟩) N N)).setCell ⟨P,6,none⟩ (.int .i64 0)) O x:=by
    refine⟨by simp only[QDw,QGs];rw[(Zbt Y nb 0 _).1];exact i.1,fun j u M=> ?_⟩;have br:O≠nb:=by have:=b.o.2.2.2.2.1.1;have:=b.o.2.2.1;omega
    refine (QGd _ _ _ _ (fun e=>au ((Addr.mk.inj e).1.symm))).trans ((QGd _ _ _ _ (fun e=>au ((Addr.mk.inj e).1.symm))).trans ?_);exact (QEc (a:=⟨O,j,none⟩) (Zau nb O br _ _ _)).trans (i.2 j u M)
   have d0:=(I 5).trans ag;have d1:=(I 6).trans c1;have d2:=v 5;have d3:=v 6;have Q:=Zz S;clear i v I S c0 ae ag
   generalize bw:Y.setCells nb 0 (xs.flatMap AF)=ck at *
   go_upto_region 5 with fail
   obtain⟨w4,K⟩:∃w4,w4=(ck.setCell ⟨P,5,none⟩ (.slice (some ⟨nb,0,none⟩) N N)).setCell ⟨P,6,none⟩ (.int .i64 0):=⟨_,rfl⟩
   try rw[<-K]
   have hq:=R.o;have i:=Q.o;rw[<-K] at hq i;obtain⟨f0,T⟩:∃f0:Nat,f0=0:=⟨_,rfl⟩;obtain⟨D,X⟩:∃D,D=xs++QAw (N - xs.length) (0:Int):=⟨_,rfl⟩;have r:Gv w4 P B (some ⟨nb,0,none⟩) N N f0 D xs:=by rw[T,X];exact hq.1
   have H4:=Zz (Zq r (Zq i b.o.2.2.2.2.2.1));have G:=Zz (Zq hq.2 (show w.heap.size<=nb by have:=b.o.2.2.1;omega));have dc:m<N:=by omega
   have db:N<=1000:=bf.2;have c0:=r.c0;have c1:=r.c1;have c2:=r.c2;have f2:=r.fz 7;rw[<-b.o.2.2.2.2.2.1] at c2;have W:=i;have x0:=(W.2 0 _ rfl);have hf:f0<N:=by omega
   clear W hq r i d0 d1 d2 d3 X K T bw al V bo ay hr cy R Q q HL;go_wp2_with fail
   refine QGt 2 ?_;rw[QGv];go_wp2_with fail
   obtain⟨Z,z⟩:∃Z,Z=w4:=⟨_,rfl⟩
   try rw[<-z]
   skip
   have t:ZY w4 Z:=by rw[z];exact Zk _ _
   have H1:=H4.o.1.below t;have c0:=H1.c0;have c1:=H1.c1;have c2:=H1.c2;have f2:=H1.fz 7;rw[<-H4.o.2.2] at c2;have s:(f0+m) % N<N:=QBw _ (by omega);have e1:wrap64 ((f0:Int)+(m:Int))=((f0+m:Nat):Int):=by unfold wrap64;omega
   have e2:((f0+m:Nat):Int).tmod (N:Int)=(((f0+m) % N:Nat):Int):=rfl;have p:(f0+m) % N<D.length:=by rw[H1.len];exact s
   obtain⟨pos,l⟩:∃pos,pos=(f0+m) % N:=⟨_,rfl⟩;have ax:((f0:Int)+(m:Int)) % (N:Int)=(pos:Int):=by rw[l];norm_cast
   have cm:((pos:Nat):Int)<(N:Int):=by omega
   rw[<-l] at e2 s p;obtain⟨y,L⟩:∃y,D[pos]? =some y:=⟨_,ZZ p⟩
   have d:∀j u,(AF y)[j]? =some u->Z.cell? ⟨nb,pos * 1+j,none⟩=some u:=by
    intro j u M;have U:j<1:=by have:=(List.getElem?_eq_some_iff.1 M).1;rwa[Zbq] at this
    have cz:pos * 1+1<=N * 1:=by have:=QEy 1 (show pos+1<=N by omega);omega
    rw[H1.row.cellAt _ (by omega)]
    have e5:D.flatMap AF=(D.take pos).flatMap AF++(AF y++(D.drop (pos+1)).flatMap AF):=by
     conv=>lhs;rw[<-QHc pos D,QHd p]
     rw[QHe,QDh];rw[ZZ p] at L;simp only[QCf] at L;rw[L]
    rw[e5,QBe (by rw[Zav,QBf,QEx (by omega)];omega),Zav,QBf,QEx (by omega),QHf,QBg (by rw[Zbq];exact U)];exact M
   have E:∀j,Z.frozen? ⟨nb,pos * 1+j,none⟩=false:=fun j=>H1.row.frozenAt _;have t0:=d 0 _ rfl;have t2:=E 0
   try simp only[QBl,QHg] at t0 t2
   have cr:nb≠P:=by
    have:=(H1.row.lt nb rfl).1;have:=H1.pb;omega
   have HH:=Zz (Zq H1 (Zq t l));clear H1 t z l d E L
   go_region
   all_goals
    go_wp2_with fail
    rw[QGv];go_wp2_with fail
    go_end0
    obtain⟨q1,q2,q3⟩:=HH.o;have hm:=H4.o.2.2;have hp:=q1.CU (by omega) x;rw[<-hm,<-q3] at hp
    try rw[QHg] at hp
    refine⟨rfl,some ⟨nb,0,none⟩,N,N,f0,_,hp.1,(G.o.1.trans (RF.Ae P _ 5 8 q2) (fun k hk=>Zu hk)).trans hp.2 (fun k hk=>Zj (by simp only[QCf] at hk;have:=G.o.2;omega)),fun k hk=>Zj (by simp only[QCi,QCf] at hk;have:=G.o.2;omega)⟩
  .have al:¬(2 * (n:Int)<=(m:Int)+1):=by have:=b.o.2.2.2.2.2.2.2.1;omega
   have da:max ((m:Int)+1) (2 * (n:Int))=2 * (n:Int):=Int.max_eq_right (by omega);have eN:(N:Int)=2 * (n:Int):=by omega
   rw[eN] at V;clear hA cq eN
   go_enter func190,ntmps190
   go_upto_region 3 with fail
   try rw[<-b.o.2.2.1]
   go_upto_region 4 with (go_at_call 258;refine HL.o.mono ?_;rintro e Y ⟨a3,c3,rfl,J,A⟩;have bj:=NP ((A.block nb (Zaa b.o.2.1)).trans b.o.2.1) J b.o.2.2.2.2.2.1 (by have:=b.o.2.2.2.2.2.2.1;omega) (QGw _ _);have q:=Zz (Zq A J);have c0:=QFa A ae;clear A J)
   clear bj;have R:=Zz (b.o.2.2.2.1.grown (N:=N) (b.o.1.trans' q.o.1) (by have:=b.o.2.2.1;omega) ((q.o.1.block nb (Zaa b.o.2.1)).trans b.o.2.1) (by have:=b.o.2.2.2.2.2.1;have:=b.o.2.2.2.2.2.2.1;omega));have i:=b.o.2.2.2.2.1.below (b.o.1.trans' q.o.1);have v:∀o,(Y.setCells nb 0 (xs.flatMap AF)).frozen? ⟨P,o,none⟩=false:=fun o=>(QDx (a:=⟨P,o,none⟩) ((Zau nb P (by have:=b.o.2.2.1;have:=b.o.2.2.2.1.pb;have:=b.o.2.2.2.1.bs;omega) _ _ _).trans ((b.o.1.trans' q.o.1).block P (by have:=b.o.2.2.2.1.pb;have:=b.o.2.2.2.1.bs;omega)))).trans (b.o.2.2.2.1.fz o)
   have I:∀o,(Y.setCells nb 0 (xs.flatMap AF)).cell? ⟨P,o,none⟩=w.cell? ⟨P,o,none⟩:=fun o=>QEc (a:=⟨P,o,none⟩) ((Zau nb P (by have:=b.o.2.2.1;have:=b.o.2.2.2.1.pb;have:=b.o.2.2.2.1.bs;omega) _ _ _).trans ((b.o.1.trans' q.o.1).block P (by have:=b.o.2.2.2.1.pb;have:=b.o.2.2.2.1.bs;omega)))
   have S:FU (((Y.setCells nb 0 (xs.flatMap AF)).setCell ⟨P,5,none⟩ (.slice (some ⟨nb,0,none⟩) N N)).setCell ⟨P,6,none⟩ (.int .i64 0)) O x:=by
    refine⟨by simp only[QDw,QGs];rw[(Zbt Y nb 0 _).1];exact i.1,fun j u M=> ?_⟩;have br:O≠nb:=by have:=b.o.2.2.2.2.1.1;have:=b.o.2.2.1;omega
    refine (QGd _ _ _ _ (fun e=>au ((Addr.mk.inj e).1.symm))).trans ((QGd _ _ _ _ (fun e=>au ((Addr.mk.inj e).1.symm))).trans ?_);exact (QEc (a:=⟨O,j,none⟩) (Zau nb O br _ _ _)).trans (i.2 j u M)
   have d0:=(I 5).trans ag;have d1:=(I 6).trans c1;have d2:=v 5;have d3:=v 6;have Q:=Zz S;clear i v I S c0 ae ag
   generalize bw:Y.setCells nb 0 (xs.flatMap AF)=ck at *
   go_upto_region 5 with fail
   obtain⟨w4,K⟩:∃w4,w4=(ck.setCell ⟨P,5,none⟩ (.slice (some ⟨nb,0,none⟩) N N)).setCell ⟨P,6,none⟩ (.int .i64 0):=⟨_,rfl⟩
   try rw[<-K]
   have hq:=R.o;have i:=Q.o;rw[<-K] at hq i;obtain⟨f0,T⟩:∃f0:Nat,f0=0:=⟨_,rfl⟩;obtain⟨D,X⟩:∃D,D=xs++QAw (N - xs.length) (0:Int):=⟨_,rfl⟩;have r:Gv w4 P B (some ⟨nb,0,none⟩) N N f0 D xs:=by rw[T,X];exact hq.1
   have H4:=Zz (Zq r (Zq i b.o.2.2.2.2.2.1));have G:=Zz (Zq hq.2 (show w.heap.size<=nb by have:=b.o.2.2.1;omega));have dc:m<N:=by omega
   have db:N<=1000:=bf.2;have c0:=r.c0;have c1:=r.c1;have c2:=r.c2;have f2:=r.fz 7;rw[<-b.o.2.2.2.2.2.1] at c2;have W:=i;have x0:=(W.2 0 _ rfl);have hf:f0<N:=by omega
   clear W hq r i d0 d1 d2 d3 X K T bw al V bo ay hr cy R Q q HL;go_wp2_with fail
   refine QGt 2 ?_;rw[QGv];go_wp2_with fail
   obtain⟨Z,z⟩:∃Z,Z=w4:=⟨_,rfl⟩
   try rw[<-z]
   skip
   have t:ZY w4 Z:=by rw[z];exact Zk _ _
   have H1:=H4.o.1.below t;have c0:=H1.c0;have c1:=H1.c1;have c2:=H1.c2;have f2:=H1.fz 7;rw[<-H4.o.2.2] at c2;have s:(f0+m) % N<N:=QBw _ (by omega);have e1:wrap64 ((f0:Int)+(m:Int))=((f0+m:Nat):Int):=by unfold wrap64;omega
   have e2:((f0+m:Nat):Int).tmod (N:Int)=(((f0+m) % N:Nat):Int):=rfl;have p:(f0+m) % N<D.length:=by rw[H1.len];exact s
   obtain⟨pos,l⟩:∃pos,pos=(f0+m) % N:=⟨_,rfl⟩;have ax:((f0:Int)+(m:Int)) % (N:Int)=(pos:Int):=by rw[l];norm_cast
   have cm:((pos:Nat):Int)<(N:Int):=by omega
   rw[<-l] at e2 s p;obtain⟨y,L⟩:∃y,D[pos]? =some y:=⟨_,ZZ p⟩
   have d:∀j u,(AF y)[j]? =some u->Z.cell? ⟨nb,pos * 1+j,none⟩=some u:=by
    intro j u M;have U:j<1:=by have:=(List.getElem?_eq_some_iff.1 M).1;rwa[Zbq] at this
    have cz:pos * 1+1<=N * 1:=by have:=QEy 1 (show pos+1<=N by omega);omega
    rw[H1.row.cellAt _ (by omega)]
    have e5:D.flatMap AF=(D.take pos).flatMap AF++(AF y++(D.drop (pos+1)).flatMap AF):=by
     conv=>lhs;rw[<-QHc pos D,QHd p]
     rw[QHe,QDh];rw[ZZ p] at L;simp only[QCf] at L;rw[L]
    rw[e5,QBe (by rw[Zav,QBf,QEx (by omega)];omega),Zav,QBf,QEx (by omega),QHf,QBg (by rw[Zbq];exact U)];exact M
   have E:∀j,Z.frozen? ⟨nb,pos * 1+j,none⟩=false:=fun j=>H1.row.frozenAt _;have t0:=d 0 _ rfl;have t2:=E 0
   try simp only[QBl,QHg] at t0 t2
   have cr:nb≠P:=by
    have:=(H1.row.lt nb rfl).1;have:=H1.pb;omega
   have HH:=Zz (Zq H1 (Zq t l));clear H1 t z l d E L
   go_region
   all_goals
    go_wp2_with fail
    rw[QGv];go_wp2_with fail
    go_end0
    obtain⟨q1,q2,q3⟩:=HH.o;have hm:=H4.o.2.2;have hp:=q1.CU (by omega) x;rw[<-hm,<-q3] at hp
    try rw[QHg] at hp
    refine⟨rfl,some ⟨nb,0,none⟩,N,N,f0,_,hp.1,(G.o.1.trans (RF.Ae P _ 5 8 q2) (fun k hk=>Zu hk)).trans hp.2 (fun k hk=>Zj (by simp only[QCf] at hk;have:=G.o.2;omega)),fun k hk=>Zj (by simp only[QCi,QCf] at hk;have:=G.o.2;omega)⟩
structure Fz (w:World)(P B:Nat)(a:Option Addr)(n c:Nat)(f k:Int)(ys:List Int):Prop where
 c0:w.cell? ⟨P,5,none⟩=some (.slice a n c)
 c1:w.cell? ⟨P,6,none⟩=some (.int .i64 f)
 c2:w.cell? ⟨P,7,none⟩=some (.int .i64 k)
 fz:∀o,w.frozen? ⟨P,o,none⟩=false
 row:w.ownsRow B 27 1 (.slice a n c) n (ys.flatMap AF)
 len:ys.length=n
 pb:P<B
 bs:B<=w.heap.size
theorem Gv.q0 {first:Nat}(h:Gv w P B a n c first ys xs):Fz w P B a n c first xs.length ys:=⟨h.c0,h.c1,h.c2,h.fz,h.row,h.len,h.pb,h.bs⟩
theorem Fz.toQ {first:Nat}(h:Fz w P B a n c f k ys)(hf:f=first)(hk:k=(xs.length:Int))(b:Bt ys first xs)(hn:n<=1000):Gv w P B a n c first ys xs:=⟨h.c0,by rw[<-hf];exact h.c1,by rw[<-hk];exact h.c2,h.fz,h.row,h.len,b,hn,h.pb,h.bs⟩
theorem Fz.below (h:Fz w P B a n c f k ys)(hb:ZY w w'):Fz w' P B a n c f k ys:=by
 have b:P<w.heap.size:=Zy h.pb h.bs;exact⟨(QEc (a:=⟨P,5,none⟩) (hb.block P b)).trans h.c0,(QEc (a:=⟨P,6,none⟩) (hb.block P b)).trans h.c1,(QEc (a:=⟨P,7,none⟩) (hb.block P b)).trans h.c2,fun o=>(QDx (a:=⟨P,o,none⟩) (hb.block P b)).trans (h.fz o),Zak h.row hb,h.len,h.pb,Zv h.bs hb.size⟩
theorem Fz.KH (h:Fz w P B a n c f k ys)(v:Int):Fz (w.setCell ⟨P,6,none⟩ (.int .i64 v)) P B a n c v k ys :=
 ⟨(Zac w P 6 5 _ (by decide)).trans h.c0,QDz _ _ _ h.c1,(Zac w P 6 7 _ (by decide)).trans h.c2,fun o=>(QEa _ _ _ _).trans (h.fz o),QDu h.row h.pb _,h.len,h.pb,by simpa[QDw] using h.bs⟩
theorem Fz.WH (h:Fz w P B a n c f k ys)(v:Int):Fz (w.setCell ⟨P,7,none⟩ (.int .i64 v)) P B a n c f v ys :=
 ⟨(Zac w P 7 5 _ (by decide)).trans h.c0,(Zac w P 7 6 _ (by decide)).trans h.c1,QDz _ _ _ h.c2,fun o=>(QEa _ _ _ _).trans (h.fz o),QDu h.row h.pb _,h.len,h.pb,by simpa[QDw] using h.bs⟩
theorem RF.drewTU {x:World}{lo hi:Nat}(h:RF w x P ob lo hi):RF w x.drew P ob lo hi:=⟨h.os,h.tape,h.output,h.size,h.block,h.off,h.AD⟩
theorem Fz.setRow {g:Nat}(h:Fz w P B (some ⟨g,0,none⟩) n c f k ys)(p:Nat)(b:List Int)(hp:p+b.length<=n) :
  Fz (w.setCells g (p * 1) (b.flatMap AF)) P B (some ⟨g,0,none⟩) n c f k (ys.take p++b++ys.drop (p+b.length))/\RF w (w.setCells g (p * 1) (b.flatMap AF)) P (some g) 5 8:=by
 have l:g≠P:=by
  have:=(h.row.lt g rfl).1;have:=h.pb;omega
 have q:∀o,(w.setCells g (p * 1) (b.flatMap AF)).cell? ⟨P,o,none⟩=w.cell? ⟨P,o,none⟩:=fun o=>QEc (a:=⟨P,o,none⟩) (Zau g P (Ne.symm l) _ _ _);have j:∀o,(w.setCells g (p * 1) (b.flatMap AF)).frozen? ⟨P,o,none⟩=w.frozen? ⟨P,o,none⟩:=fun o=>QDx (a:=⟨P,o,none⟩) (Zau g P (Ne.symm l) _ _ _);obtain⟨s1,s2,s3,C⟩:=Zbt w g (p * 1) (b.flatMap AF);have d:=Zav b;have hlen:=h.len
 have m:(w.setCells g (p * 1) (b.flatMap AF)).ownsRow B 27 1 (.slice (some ⟨g,0,none⟩) n c) n ((ys.take p++b++ys.drop (p+b.length)).flatMap AF):=by
  rcases h.row.2 with⟨r,_⟩ | ⟨u,cap,cur,r,hg,hh,s,v,D,x⟩
  .cases r
  .obtain⟨rfl,rfl⟩:g=u/\c=cap:=by simpa using r
   have z:p * 1+b.length * 1<=n * 1:=by rw[<-QBi];exact QEy _ hp
   have y:n * 1<=c * 1:=QEy _ s;obtain⟨i,k1,k2,k3⟩:=Zdl g 27 (b.flatMap AF) (p * 1) w cur hh (by omega);refine⟨by rw[Zav];simp;omega,Zj ⟨g,c,i,rfl,hg,k1,s,v,by omega,?_⟩⟩
   have e0:(ys.take p++b++ys.drop (p+b.length)).flatMap AF=(ys.flatMap AF).take (p * 1)++b.flatMap AF++(ys.flatMap AF).drop (p * 1+b.length * 1):=by
    rw[QHe,QHe,Fw,<-QBi,Fv]
   rw[e0,<-x,k3,d];have t:(cur.toList.take (n * 1)).take (p * 1)=cur.toList.take (p * 1):=by rw[QGf,QEx (by omega)]
   rw[t,QCr,QCw (by rw[ZX,QBf,QGr,d];omega),ZX,QBf,QGr,d,QEx (by omega),QHl]
 refine⟨⟨(q 5).trans h.c0,(q 6).trans h.c1,(q 7).trans h.c2,fun o=>(j o).trans (h.fz o),m,by simp;omega,h.pb,by rw[s1];exact h.bs⟩,⟨s2,s3,C,by rw[s1];exact Zx _,fun k _ _ A=>Zau g k (fun e=>A (by rw[e])) _ _ _,fun _ o _=>q o,fun _ o=>j o⟩⟩
theorem Ya (w:World)(g p m c:Nat)(cur:Array Value)(hw:w.heap[g]? =some (.cells cur 27 (0,0)))(b:(p+m) * 1<=cur.size)(hm:0<m)(ty:TypeId) :
  (Builtin.clear_ #[75] ty #[.slice (some ⟨g,p * 1,none⟩) m c]).run prog w=.ok (.tuple #[]) (w.setCells g (p * 1) ((QAw m (0:Int)).flatMap AF)):=by
 have hl:=Zav (QAw m (0:Int));rw[List.length_replicate] at hl;rw[QBi] at b;refine Fg w 75 27 ty (.int .u64 0) underlying75 zeroTU m _ (KS m) (Pk _) g (p * 1) c hm (fun j d=> ?_) (fun j _=> ?_)
 .unfold QEk
  rw[hw];simp only[QIl (show p * 1+j<cur.size by omega)]
  rfl
 .simp[QHj,hw]
theorem Jq (ys:List Int)(p:Nat)(hp:p<ys.length):ys.take p++QAw 1 (0:Int)++ys.drop (p+(QAw 1 (0:Int)).length)=ys.set p (0:Int):=by
 rw[QIm,if_pos hp];simp
theorem Tx (w:World)(P B n c first:Nat)(a:Option Addr)(ys xs:List Int)(x:Int)(h:Gv w P B a n c first ys (x::xs)) :
  Calls prog 266 #[.pointer (some ⟨P,5,none⟩)] w fun e w'=>e=.returned (.tuple #[.int .u64 x,.bool true])/\∃l az,Gv w' P B a n c l az xs/\RF w w' P (QFv a n c).ownBlock 5 8:=by
 have hlen:=h.len;have v:=h.Br;have aj:=h.ring.Br;rw[QAs] at aj;have bo:0<n:=by omega
 have J:first<n:=by
  rcases h.ring.Ee with S | ⟨_,H⟩
  .omega
  .subst H;simp at hlen;omega
 obtain⟨g,cur,rfl,hg,r,I,K,X⟩:∃g cur,a=some ⟨g,0,none⟩/\B<=g/\n<=c/\c<=maxLen/\w.heap[g]? =some (.cells cur 27 (0,0))/\cur.size=c * 1:=by
  rcases h.row.2 with⟨H,h3⟩ | ⟨g,cap,cur,H,hg,hh,h3,h4,h5,_⟩
  .simp only[QGx] at H
   omega
  .obtain⟨rfl,_,rfl⟩:a=some ⟨g,0,none⟩/\n=n/\c=cap:=by simpa using H
   exact⟨g,cur,rfl,hg,h3,h4,hh,h5⟩
 have I:c<=9223372036854775807:=I;obtain⟨C,L⟩:∃C,C=w:=⟨_,rfl⟩;obtain⟨rb,t⟩:∃rb,rb=w.heap.size:=⟨_,rfl⟩;have p:ZY w C:=by rw[L];exact Zk _ _
 skip
 have ae:g<w.heap.size:=(Array.getElem?_eq_some_iff.1 K).1;have N:=h.below p;have y:C.heap[g]? =some (.cells cur 27 (0,0)):=(p.block g ae).trans K;have c0:=N.c0;have c1:=N.c1;have c2:=N.c2;obtain⟨m,hm⟩:∃m,m=xs.length:=⟨_,rfl⟩;rw[QAs,<-hm] at c2;have Y:=EM C P (m+1) c2;obtain⟨hx,A⟩:=h.ring.pop (0:Int)
 have d:∀j u,(AF x)[j]? =some u->C.cell? ⟨g,first * 1+j,none⟩=some u:=by
  intro j u hj;have aw:j<1:=by have:=(List.getElem?_eq_some_iff.1 hj).1;rwa[Zbq] at this
  have br:first * 1+1<=n * 1:=by have:=QEy 1 (show first+1<=n by omega);omega
  rw[N.row.cellAt _ (by omega)]
  have e5:ys.flatMap AF=(ys.take first).flatMap AF++(AF x++(ys.drop (first+1)).flatMap AF):=by
   conv=>lhs;rw[<-QHc first ys,QHd (by omega)]
   rw[QHe,QDh];rw[ZZ (by omega)] at hx;simp only[QCf] at hx;rw[hx]
  rw[e5,QBe (by rw[Zav,QBf,QEx (by omega)];omega),Zav,QBf,QEx (by omega),QHf,QBg (by rw[Zbq];exact aw)];exact hj
 have V:n * 1<=c * 1:=QEy _ r;have Z:(first+1) * 1<=n * 1:=QEy _ (by omega);have O:=Zz (Zq A (Zq hm (Zq hlen v)));have E:=Zz (Zq p (Zq t L));have HQ:=Zz N.q0;have HE:=Zz Y;have G:=Zz (Zq y (Zq (show (first+1) * 1<=cur.size by rw[X];exact Zv Z V) (Zq ae h.pb)));have t0:=d 0 _ rfl
 try simp only[QBl,QHg] at t0
 have e1:wrap64 ((first:Int)+1)=((first+1:Nat):Int):=by unfold wrap64;omega
 have e3:wrap64 ((m+1:Nat) - 1:Int)=(m:Int):=by unfold wrap64;omega
 have g0:decide (m+1=0)=false:=decide_eq_false (by omega);have bj:first+1<=c:=Zv (Nat.succ_le_of_lt J) r
 have bh:¬c=first:=fun e=>Nat.lt_irrefl _ (Zy J (e▸r))
 clear h N hx A d hm hlen v aj K y p L t Y V Z X
 go_enter func266,ntmps266
 go_upto_region 1 with fail
 rw[<-E.o.2.2]
 go_upto_region 3 with (go_at_call 195;refine HE.o.mono ?_;rintro e w9 ⟨rfl,ax⟩;rw[ax])
 go_region
 obtain⟨w1,M⟩:∃w1,w1=C.drew:=⟨_,rfl⟩;rw[<-M];have q:ZY C w1:=by rw[M];exact ZV.drew
 have ar:=Zz (HQ.o.below q);have R:=Zz ((q.block g (Zaa G.o.1)).trans G.o.1);have Q:=Zz q;have t0:=QFa Q.o t0;obtain⟨D,i⟩:∃D,D=w1:=⟨_,rfl⟩;have t:=E.o.2.1;have S:ZY w w1:=E.o.1.trans' Q.o;have U:ZY w D:=by rw[i];exact S
 have T:Fz D P B (some ⟨g,0,none⟩) n c first (m+1:Nat) ys:=by
  have hQ:=ar.o;have ay:=O.o.2.1;rw[QAs,<-ay] at hQ;rw[i];exact hQ
 have z:D.heap[g]? =some (.cells cur 27 (0,0)):=by rw[i];exact R.o
 skip
 have W:=fun ty=>Ya D g first 1 (c - first) cur z G.o.2.1 (by omega) ty
 have au:=Zav (QAw 1 (0:Int));have b:=T.setRow first (QAw 1 (0:Int)) (by simp;omega)
 rw[Jq ys first (by rw[O.o.2.2.1];exact J)] at b
 generalize ag:D.setCells g (first * 1) ((QAw 1 (0:Int)).flatMap AF)=w3 at *
 skip
 have c0:=b.1.c0;have c1:=b.1.c1;have c2:=b.1.c2;have f1:=b.1.fz 6;have f2:=b.1.fz 7;have HS:=Zz (Zq b (Zq U ag))
 try simp only[QHg] at W
 rw[i] at W;have e2:((first+1:Nat):Int).tmod (n:Int)=(((first+1) % n:Nat):Int):=rfl;obtain⟨pos,s⟩:∃pos,pos=(first+1) % n:=⟨_,rfl⟩;have bf:((first:Int)+1) % (n:Int)=(pos:Int):=by rw[s];norm_cast
 have al:=Zz s;have bp:¬((n:Int)=0):=by omega
 rw[<-s] at e2;have e3:wrap64 (m:Int)=(m:Int):=by have:=O.o.1.Br;have:=O.o.2.1;have:=O.o.2.2;simp only[QAo] at *;unfold wrap64;omega
 clear b T z U i q M S t ag s au I r hg
 go_upto_region 6 with fail
 go_region
 all_goals
  go_wp2_with fail
  go_ret2
  obtain⟨⟨q1,q2⟩,q3,q4⟩:=HS.o;obtain⟨r1,r2,r3,r4⟩:=O.o;have hp:pos=(first+1) % ys.length:=by rw[r3];exact al.o
  have hw:w.heap.size<=D.heap.size:=q3.size;have S:=(q1.KH pos).WH m;have k1:RF w w3 P (some g) 5 8:=(RF.Ae P _ 5 8 q3).trans q2 (fun k hk=>Zu hk);have k2:=(k1.trans (RF.Bv w3 P 6 (some g) (.int .i64 pos) (lo:=5) (hi:=8) (by decide)) (fun k hk=>Zu hk)).trans (RF.Bv _ P 7 (some g) (.int .i64 m) (lo:=5) (hi:=8) (by decide)) (fun k hk=>Zu hk);have H:=S;have k3:=k2;exact⟨rfl,pos,_,(H.below (ZV.drew)).toQ (first:=pos) rfl (by rw[r2]) (by rw[hp];exact r1) r4,k3.drewTU⟩
def Zds (F:Ad)(Na:Nat->Option Addr)(Nc:Nat->Nat)(k:Nat):Cl:=⟨F.bu k,F.cl k,F.be k,F.ba k,F.ca k,F.ji k,Na k,Nc k,(QAr (F.an k)).map (F.af k),1,0,0⟩
def Zcw (F:Ad)(Na:Nat->Option Addr)(Nc:Nat->Nat)(k:Nat):List Cl:=(QAr k).map (Zds F Na Nc)
theorem JP (F:Ad)(Na:Nat->Option Addr)(Nc:Nat->Nat)(k:Nat):(Zcw F Na Nc k).length=k:=by simp[Zcw]
theorem Oh (F:Ad)(Na:Nat->Option Addr)(Nc:Nat->Nat)(k:Nat):Zcw F Na Nc (k+1)=Zcw F Na Nc k++[Zds F Na Nc k]:=by unfold Zcw;rw[List.range_succ,List.map_append];rfl
theorem LH {k:Nat}(hk:k<n):(Zcw F Na Nc n).getD k .z=Zds F Na Nc k:=by
 unfold Zcw;rw[ZQ,List.getElem?_map,List.getElem?_range hk];rfl
theorem Oi (F:Ad)(Na:Nat->Option Addr)(Nc:Nat->Nat)(k:Nat):(Zds F Na Nc k).af.length=F.an k:=by simp[Zds]
theorem infoNd:(prog.info? 276).map (fun i=>(i.zero,i.size,i.bytes))=some (some (.agg #[.int .i64 0,.int .i64 0,.int .i64 0,.int .i64 0,.int .i64 0,.int .i64 0,.slice none 0 0,.int .i64 0,.int .i64 0,.int .u64 0]),10,96):=by kernel_rfl
theorem LR (h:An B w F (.slice a F.n c) F.n Na Nc)(hn:0<F.n):∃g,a=some ⟨g,0,none⟩/\g<w.heap.size/\F.n<=c/\∀i j,i<F.n->j<7->w.cell? ⟨g,i * 7+j,none⟩=(Zd8 F i (Na i) (Nc i))[j]? :=by
 rcases h.own.2 with⟨_,b⟩ | ⟨g,cap,cur,b,hg,hh,d,o,p,q⟩
 .omega
 .obtain⟨e,_,l⟩:a=some ⟨g,0,none⟩/\F.n=F.n/\c=cap:=by simpa using b
  subst e l;refine⟨g,rfl,Zaa hh,d,fun i j hi m=> ?_⟩;rw[h.own.cellAt (i * 7+j) (by omega),Im F Na Nc F.n i j hi m]
theorem An.off {v:Value}{k:Nat}(h:An B w F v k Na Nc)(d:qh<B)(i:Nat)(hi:i<k):Na i≠some ⟨qh,0,none⟩:=by
 intro x;have:=(h.DW i hi).2;rw[x] at this;rcases this with⟨b,_⟩ | ⟨g,cap,cur,b,hg,_⟩
 .cases b
 .simp only[QGx,QCf,Addr.mk.injEq] at b
  omega
theorem Kh (w:World)(B:Nat)(id:Int)(F:Ad)(a:Option Addr)(c:Nat)(Na:Nat->Option Addr)(Nc:Nat->Nat)(h:An B w F (.slice a F.n c) F.n Na Nc)(S:1<=F.n)(ax:F.n<=12)(hB:B<=w.heap.size)(hq:∀i,i<F.n->Na i≠some ⟨qh,0,none⟩) :
  Calls prog 197 #[.int .u64 id,.agg #[.int .i64 F.dl,.slice a F.n c]] w fun e w'=>∃r,e=.returned (.pointer (some ⟨r.b,0,none⟩))/\r.id=id/\r.st=1/\r.ns=Zcw F Na Nc F.n/\w.heap.size<=r.b/\w.heap.size<=r.ng/\AR qh w' B r/\ZY w w':=by
 obtain⟨g,rfl,al,ay,A⟩:=LR h S;have H:=Zz (Zq h A);have HQ:=Zz hq;obtain⟨n,hn⟩:∃n,n=F.n:=⟨_,rfl⟩;have HN:=Zz hn;rw[<-hn] at S ax ay ⊢;obtain⟨i10,hi,V,W,X⟩:=info_parts infoNd;have Z:=Zz (Zq hi (Zq V (Zq W X)));clear h hq A hn hi V W X
 go_enter func197,ntmps197
 go_wp2_with fail
 go_loopw [14] (fun iv wr=>∃(i:Nat) (L:Option Addr) (y:Nat),iv=.int .i64 i/\i<=n/\wr.heap[w.heap.size+1]? =some (.cells #[.int .u64 id,.int .i64 1,.slice L i y] 272 (0,0))/\wr.ownsRow w.heap.size 276 10 (.slice L i y) i ((Zcw F Na Nc i).flatMap Ny)/\ZY w wr) (fun iv _=>n - (intOf iv).toNat)
 case atStart =>
  refine⟨0,none,0,rfl,by omega,?_,QEj _ _ _ _,(ZV.alloc ZU _).alloc (by simp) _⟩;exact Zbm _ _ _ _ (by simp)
 case round =>
  obtain⟨i,L,y,rfl,hi,s,u,J⟩:=hrel;have HR:=Zz (Zq s (Zq u J));have U:w.heap.size+1<wr.heap.size:=Zaa s;by_cases h1:i<n
  .have ar:i<F.n:=by have:=HN.o;omega
   have t:∀j v,(Zd8 F i (Na i) (Nc i))[j]? =some v->wr.cell? ⟨g,i * 7+j,none⟩=some v:=by
    intro j v hv;have hj:j<7:=(List.getElem?_eq_some_iff.1 hv).1;exact (QEc (a:=⟨g,i * 7+j,none⟩) (J.block g al)).trans ((H.o.2 i j ar hj).trans hv)
   have t0:wr.cell? ⟨g,i * 7,none⟩=some (.int .i64 (F.bu i)):=t 0 _ rfl;have t1:=t 1 _ rfl;have t2:=t 2 _ rfl;have t3:=t 3 _ rfl;have t4:=t 4 _ rfl;have t5:=t 5 _ rfl;have t6:=t 6 _ rfl;have i1:(i:Int)<(n:Int):=by omega
   obtain⟨d,G⟩:∃d,d=wr.alloc (.cells #[.int .i64 (F.bu i),.int .i64 (F.cl i),.int .i64 (F.be i),.int .i64 (F.ba i),.int .i64 (F.ca i),.int .i64 (F.ji i),.slice (Na i) (F.an i) (Nc i)] 130):=⟨_,rfl⟩;obtain⟨nb,Q⟩:∃nb,nb=wr.heap.size:=⟨_,rfl⟩;have I:ZY wr d:=by rw[G];exact ZV.alloc ZU _
   have l:d.heap[nb]? =some (.cells #[.int .i64 (F.bu i),.int .i64 (F.cl i),.int .i64 (F.be i),.int .i64 (F.ba i),.int .i64 (F.ca i),.int .i64 (F.ji i),.slice (Na i) (F.an i) (Nc i)] 130 (0,0)):=by rw[G,Q];exact QFm _ _
   have m:=(I.block _ U).trans s;have u0:d.cell? ⟨nb,0,none⟩=some (.int .i64 (F.bu i)):=by unfold QEk;rw[l];rfl
   have u1:d.cell? ⟨nb,1,none⟩=some (.int .i64 (F.cl i)):=by unfold QEk;rw[l];rfl
   have u2:d.cell? ⟨nb,2,none⟩=some (.int .i64 (F.be i)):=by unfold QEk;rw[l];rfl
   have u3:d.cell? ⟨nb,3,none⟩=some (.int .i64 (F.ba i)):=by unfold QEk;rw[l];rfl
   have u4:d.cell? ⟨nb,4,none⟩=some (.int .i64 (F.ca i)):=by unfold QEk;rw[l];rfl
   have u5:d.cell? ⟨nb,5,none⟩=some (.int .i64 (F.ji i)):=by unfold QEk;rw[l];rfl
   have u6:d.cell? ⟨nb,6,none⟩=some (.slice (Na i) (F.an i) (Nc i)):=by unfold QEk;rw[l];rfl
   obtain⟨rb,K⟩:∃rb,rb=w.heap.size+1:=⟨_,rfl⟩;rw[<-K] at m U;have br:w.heap.size<=rb:=by omega
   have m2:d.cell? ⟨rb,2,none⟩=some (.slice L i y):=by unfold QEk;rw[m];rfl
   have mz:d.frozen? ⟨rb,2,none⟩=false:=by unfold QHj;rw[m];rfl
   have C:=Zak u I;have HW:=Zz (Zq G (Zq Q (Zq I (Zq m K))));have T:d.heap.size=wr.heap.size+1:=by rw[G];simp
   have az:rb<d.heap.size:=by omega
   have bw:w.heap.size<=d.heap.size:=by omega
   have bo:=Zz T;clear T;have HO:=Zz C;clear t s u J l I m C;rw[<-K];clear K G Q
   go_upto_region 5 with fail
   rw[<-HW.o.2.1,<-HW.o.1];clear t0 t1 t2 t3 t4 t5 t6;obtain⟨Y,bj⟩:∃Y,Y=d.alloc (.cells #[.int .i64 (F.bu i),.int .i64 (F.cl i),.int .i64 (F.be i),.int .i64 (F.ba i),.int .i64 (F.ca i),.int .i64 (F.ji i),.slice (Na i) (F.an i) (Nc i),.int .i64 1,.int .i64 0,.int .u64 0] 276):=⟨_,rfl⟩;have bf:=QFa (((Zk d.heap.size d).alloc ZU (.cells #[.int .i64 (F.bu i),.int .i64 (F.cl i),.int .i64 (F.be i),.int .i64 (F.ba i),.int .i64 (F.ca i),.int .i64 (F.ji i),.slice (Na i) (F.an i) (Nc i),.int .i64 1,.int .i64 0,.int .u64 0] 276)).drew) m2;have bh:=QFa ((Zk d.heap.size d).alloc ZU (.cells #[.int .i64 (F.bu i),.int .i64 (F.cl i),.int .i64 (F.be i),.int .i64 (F.ba i),.int .i64 (F.ca i),.int .i64 (F.ji i),.slice (Na i) (F.an i) (Nc i),.int .i64 1,.int .i64 0,.int .u64 0] 276)) m2
   have O:some rb≠(QFv L i y).ownBlock:=fun x=>by
    rcases HO.o.2 with⟨N,_⟩ | ⟨g2,cap,cur,N,_,hh,_⟩
    .rw[N] at x;simp[QCi] at x
    .rw[N] at x
     simp only[QCi,QCf] at x;exact Zah HW.o.2.2.2.1 hh (by decide) x
   go_region_law ((refine step_append_lies _ (by rfl) _ _ _ (by rfl) w.heap.size 276 i10 _ 10 96 underlying270 Z.o.1 Z.o.2.1 Z.o.2.2.1 Z.o.2.2.2 rfl (by omega) (.slice L i y) i ((Zcw F Na Nc i).flatMap Ny) (by rfl) ((HO.o.alloc _).drew) ⟨d.heap.size,0,none⟩ 1 1 [.int .i64 (F.bu i),.int .i64 (F.cl i),.int .i64 (F.be i),.int .i64 (F.ba i),.int .i64 (F.ca i),.int .i64 (F.ji i),.slice (Na i) (F.an i) (Nc i),.int .i64 1,.int .i64 0,.int .u64 0] (by rfl) (by rfl) (World.news_of_block (cs:=#[.int .i64 (F.bu i),.int .i64 (F.cl i),.int .i64 (F.be i),.int .i64 (F.ba i),.int .i64 (F.ca i),.int .i64 (F.ji i),.slice (Na i) (F.an i) (Nc i),.int .i64 1,.int .i64 0,.int .u64 0]) (t:=276) (fr:=(0,0)) (QFm d _)) (by simp[Value.oneCell']) (by omega) (by unfold maxLen;omega) (by omega) (by simp;omega) (d.heap.size+1) (by simp) ?_;intro gg M w7 D q R aw;have s1:=(q.cell_far ⟨rb,2,none⟩ (by simp;omega) O).trans (QFa (((Zk d.heap.size d).alloc ZU _).drew) m2);have sz:=(q.frozen_far ⟨rb,2,none⟩ (by simp;omega) O).trans (((((Zk d.heap.size d).alloc ZU (.cells #[.int .i64 (F.bu i),.int .i64 (F.cl i),.int .i64 (F.be i),.int .i64 (F.ba i),.int .i64 (F.ca i),.int .i64 (F.ji i),.slice (Na i) (F.an i) (Nc i),.int .i64 1,.int .i64 0,.int .u64 0] 276)).drew).frozen (p:=⟨rb,2,none⟩) (by simp only[];omega)).trans mz)))
   all_goals
    have HK:=Zz (Zq D (Zq q R));clear D q R aw s1 sz m2 bf bh mz;go_wp2_with fail
    refine⟨?_,by simp[intOf];omega⟩;obtain⟨k1,k2,k3⟩:=HK.o;obtain⟨q1,q2,q3,q4,q5⟩:=HW.o
    have ae:ZY w w7:=by
     refine ((((HR.o.2.2.trans' q3).alloc (by omega) _).drew).grown k2 (by show w.heap.size<=(d.alloc _).heap.size;simp;omega) (fun z hz=>(HO.o.lt z hz).1))
    have E:w7.heap[rb]? =some (.cells #[.int .u64 id,.int .i64 1,.slice L i y] 272 (0,0)):=by
     refine (k2.block rb (by show rb<(d.alloc _).heap.size;simp;omega) O).trans ?_;exact (Zam d _ rb az).trans q4
    have hs:=Oh F Na Nc i;refine⟨i+1,some ⟨gg,0,none⟩,M,by go_num,by omega,?_,?_,ae.setCell (by show w.heap.size<=rb;omega) _⟩
    .rw[Zab E];rfl
    .have k4:w7.ownsRow w.heap.size 276 10 (.slice (some ⟨gg,0,none⟩) (i+1) M) (i+1) ((Zcw F Na Nc (i+1)).flatMap Ny):=by
      rw[hs,QHe,List.flatMap_singleton]
      have:Ny (Zds F Na Nc i)=[.int .i64 (F.bu i),.int .i64 (F.cl i),.int .i64 (F.be i),.int .i64 (F.ba i),.int .i64 (F.ca i),.int .i64 (F.ji i),.slice (Na i) (F.an i) (Nc i),.int .i64 1,.int .i64 0,.int .u64 0]:=by
       unfold Ny Zds;simp
      rw[this];exact k1
     exact Zaf k4 E (by decide) _
  .have e:i=n:=by omega
   subst e;have i1:¬(i:Int)<(i:Int):=by omega
   clear h1 s u J;go_wp2_with fail
   go_ret
   obtain⟨k1,k2,k3⟩:=HR.o;have hF:F.n=i:=HN.o.symm
   obtain⟨g2,cur,ag,aj,hh,bp⟩:∃g2 cur,L=some ⟨g2,0,none⟩/\w.heap.size<=g2/\wr.heap[g2]? =some (.cells cur 276 (0,0))/\i<=y:=by
    rcases k2.2 with⟨N,_⟩ | ⟨g2,cap,cur,N,hg,hh,h3,_⟩
    .simp only[QGx] at N;omega
    .obtain⟨rfl,_,rfl⟩:L=some ⟨g2,0,none⟩/\i=i/\y=cap:=by simpa using N
     exact⟨g2,cur,rfl,hg,hh,h3⟩
   subst ag;have hl:=JP F Na Nc i;refine⟨⟨w.heap.size+1,id,1,g2,y,Zcw F Na Nc i⟩,rfl,rfl,rfl,rfl,by simp,aj,⟨?_,?_,?_,fun k hk=> ?_,?_,?_⟩,k3⟩
   .show wr.heap[w.heap.size+1]? =_
    rw[k1];unfold rnC;simp only[hl]
   .show B<=w.heap.size+1;omega
   .show wr.ownsRow B _ 10 (.slice (some ⟨g2,0,none⟩) (Zcw F Na Nc i).length y) (Zcw F Na Nc i).length _
    rw[hl];exact Zcs k2 hB
   .have au:k<i:=by
     have:k<(Zcw F Na Nc i).length:=hk;omega
    have e:(⟨w.heap.size+1,id,1,g2,y,Zcw F Na Nc i⟩:Aq).at_ k=Zds F Na Nc k:=LH au;rw[e];have:=Zak (H.o.1.DW k (by omega)) k3;unfold Mn;have e2:afV (Zds F Na Nc k).af=Zbx (F.an k) (F.af k):=by unfold afV Zds Zbx;simp
    rw[e2,Oi];exact⟨this,HQ.o k (by omega)⟩
   .show 1<=(Zcw F Na Nc i).length;omega
   .show (Zcw F Na Nc i).length<=12;omega
