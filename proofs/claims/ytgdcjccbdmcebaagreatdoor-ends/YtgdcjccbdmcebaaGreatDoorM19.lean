import Derived.Test.YtgdcjccbdmcebaaGreatDoorM02
import Derived.Deep.CutRange
set_option linter.unusedSimpArgs false
set_option linter.unusedVariables false
set_option maxHeartbeats 4000000
set_option maxRecDepth 100000
namespace Go.Proofs.YtgdcjccbdmcebaaGreatDoor
open Tryz
open Go.RowKit
attribute [local go_sem ↓] Go.wp_at_zero Go.wp_at_succ
variable {a:Option Addr}{w w':World}{ys xs:List AZ}{B c:Nat}
theorem madeTR (n:Nat):(madeCells (.agg #[.int .u64 0, .int .i64 0]:Value).cells (n * 2)).toList=(List.replicate n (⟨0,0⟩:AZ)).flatMap AY:=by
 rw[<-LY,<-Zb2]
 rfl
theorem Mx (w:World)(ty:TypeId)(b o d f m:Nat)(a:Addr)(e g:Nat)(cur:Array Value)(h:List AZ)(hw:w.heap[b]? =some (.cells cur 274 (0,0)))(hm:Nat.min e d=m)(l:h.length=m)(i:o+m * 2<=cur.size)
  (hsrc:∀j v,(h.flatMap AY)[j]? =some v->w.cell? (a.add j)=some v) :
  (Builtin.copy_ #[152,152] ty #[.slice (some ⟨b,o,none⟩) d f, .slice (some a) e g]).run prog w= .ok (goInt m) (w.setCells b o (h.flatMap AY)):=by
 have hl:=Zaq h;refine KC w 152 152 ty 274 2 m b o d f a e g (h.flatMap AY) underlying152 KM hm (by omega) hsrc (fun j k=> ?_) (fun j _=> ?_) (RR h)
 ·unfold World.cell?
  rw[hw];simp only[Array.getElem?_eq_getElem (show o+j<cur.size by omega)]
  rfl
 ·simp[World.frozen?,hw]
theorem Zcm (g:Nat)(e:TypeId):∀(d:List Value) (o:Nat) (w:World) (cur:Array Value),w.heap[g]? =some (.cells cur e (0,0))->o+d.length<=cur.size->∃b,(w.setCells g o d).heap[g]? =some (.cells b e (0,0))/\b.size=cur.size/\b.toList=cur.toList.take o++d++cur.toList.drop (o+d.length)
 | [],o,w,cur,h,_=>⟨cur,h,rfl,by simp⟩
 | v::r,o,w,cur,h,hl=>by
  have f:(w.setCell ⟨g,o,none⟩ v).heap[g]? =some (.cells (cur.setIfInBounds o v) e (0,0)):=by
   simp[World.setCell,Array.getElem?_modify,h]
  obtain⟨b,i,j,k⟩:=Zcm g e r (o+1) (w.setCell ⟨g,o,none⟩ v) (cur.setIfInBounds o v) f (by simp at hl ⊢;omega);refine⟨b,i,by simpa using j,?_⟩;simp only[List.length_cons] at hl ⊢;have l:o<cur.toList.length:=by simp;omega
  rw[k,Array.toList_setIfInBounds,List.take_set,List.take_add_one,ZZ l,Option.toList_some,List.set_append_right _ _ (by simp;omega),List.drop_set_of_lt (by omega)];have:o - (List.take o cur.toList).length=0:=by simp;omega
  rw[this,show o+(r.length+1)=o+1+r.length by omega];simp
theorem Zbt (w:World)(g o:Nat)(b:List Value):(w.setCells g o b).heap.size=w.heap.size/\(w.setCells g o b).os=w.os/\(w.setCells g o b).tape=w.tape/\(w.setCells g o b).output=w.output:=by
 induction b generalizing o w with
 | nil=>exact⟨rfl,rfl,rfl,rfl⟩
 | cons v r i =>
  obtain⟨d,e,f,h⟩:=i (w.setCell ⟨g,o,none⟩ v) (o+1);rw[World.setCells];exact⟨by rw[d];simp[World.setCell],e,f,h⟩
theorem Zap (g k:Nat)(b:k≠g):∀(d:List Value) (o:Nat) (w:World),(w.setCells g o d).heap[k]? =w.heap[k]?
 | [],_,_=>rfl
 | v::r,o,w=>by rw[World.setCells,Zap g k b r];exact Zl w ⟨g,o,none⟩ v k b
theorem Zdr {k:Nat}(h:Below k w w')(g o:Nat)(b:List Value)(hg:k<=g):Below k w (w'.setCells g o b):=by
 obtain⟨d,e,f,i⟩:=Zbt w' g o b;exact⟨e.trans h.os,f.trans h.tape,i.trans h.output,by rw[d];exact h.size,fun j l=>(Zap g j (by omega) b o w').trans (h.block j l)⟩
theorem Ke (w:World)(P B n c first:Nat)(a:Option Addr)(ys xs:List AZ)(h:FV w P B a n c first ys xs) :
  Calls prog 211 #[.pointer (some ⟨P,8,none⟩)] w fun e w'=>∃a' c',e= .returned (.slice a' xs.length c')/\w'.ownsRow w.heap.size 274 2 (.slice a' xs.length c') xs.length (xs.flatMap AY)/\Below w.heap.size w w':=by
 obtain⟨m,hm⟩:∃m,m=xs.length:=⟨_,rfl⟩;have c0:=h.c0;have c1:=h.c1;have c2:=h.c2;have hlen:=h.len;have b:=h.ring;have ay:=h.Bs;have hf:=b.Bs;have b9:m<=n:=by omega
 rw[<-hm] at c2 ⊢;have M:=EL w P m c2;have HE:=Zz M;by_cases h0:m=0
 ·subst h0
  have S:xs=[]:=List.eq_nil_of_length_eq_zero hm.symm;have HX:=Zz S;clear hm S b hf M
  go_enter func211,ntmps211
  go_wp2_with (go_at_call 199;refine HE.o.mono ?_;rintro e F ⟨rfl,r⟩;rw[r])
  go_ret
  exact⟨none,0,rfl,by rw[HX.o];exact World.ownsRow_nil _ _ _ _,Zk _ _⟩
 ·obtain⟨g,cur,rfl,hg,aw,ar,U⟩:∃g cur,a=some ⟨g,0,none⟩/\B<=g/\n<=c/\c<=maxLen/\w.heap[g]? =some (.cells cur 274 (0,0)):=by
   rcases h.row.2 with⟨z,h3⟩ | ⟨g,cap,cur,z,hg,hh,h3,h4,_⟩
   ·simp only[Value.slice.injEq] at z
    omega
   ·obtain⟨rfl,_,rfl⟩:a=some ⟨g,0,none⟩/\n=n/\c=cap:=by simpa using z
    exact⟨g,cur,rfl,hg,h3,h4,hh⟩
  have i:∀j,j<n * 2->w.cell? ⟨g,j,none⟩=(ys.flatMap AY)[j]? :=fun j W=>h.row.cellAt j W
  have az:first<n:=by
   rcases b.Ec with T | ⟨_,z⟩
   ·omega
   ·subst z;simp at hlen;omega
  have V:g<w.heap.size:=(Array.getElem?_eq_some_iff.1 U).1;have Z:=b.list;unfold maxLen at ar;have av:=VP w m (by omega);have y:=Zz (Zq hm (Zq Z (Zq hlen i)));have HP:=Zz (Zq h.pb h.bs);obtain⟨lb,D⟩:∃lb,lb=w.heap.size:=⟨_,rfl⟩;obtain⟨F,r⟩:∃F,F=w.alloc (.cells (madeCells (.agg #[.int .u64 0, .int .i64 0]:Value).cells (m * 2)) 274):=⟨_,rfl⟩;rw[<-D,<-r] at av;have p:Below w.heap.size w F:=by rw[r];exact (Zk _ _).alloc (Zx _) _
  have N:F.heap[lb]? =some (.cells (madeCells (.agg #[.int .u64 0, .int .i64 0]:Value).cells (m * 2)) 274 (0,0)):=by rw[r,D];exact heap_alloc_new w _
  have c0:=cell_later p c0;have c1:=cell_later p c1;have c2:=cell_later p c2;have f:=Zz (Zq p (Zq D N));have ag:=Zz h.c0;have g0:decide (m=0)=false:=decide_eq_false h0;have g1:(first:Int)<=(n:Int):=by omega
  have g2:¬(c=first):=by omega
  have g3:n<=c:=aw;obtain⟨m1,q⟩:∃m1,m1=Nat.min (n - first) m:=⟨_,rfl⟩;have X:m1<=m:=by rw[q];exact Nat.min_le_right _ _
  have k:∀j v,(((ys.drop first).take m1).flatMap AY)[j]? =some v->F.drew.cell? (Addr.add ⟨g,first * 2,none⟩ j)=some v:=by
   intro j v Y
   have W:j<m1 * 2:=by
    have:=(List.getElem?_eq_some_iff.1 Y).1;rw[Zaq,List.length_take] at this;have:=Nat.min_le_left m1 (ys.drop first).length;omega
   have u:m1<=n - first:=by rw[q];exact Nat.min_le_left _ _
   rw[Zce];refine (World.cell?_of_block (a:=⟨g,first * 2+j,none⟩) (p.block g V)).trans ?_;rw[i _ (by omega),<-Y,<-DP,<-Fb,List.getElem?_take_of_lt W,List.getElem?_drop]
  have Q:((ys.drop first).take m1).length=m1:=by
   rw[List.length_take,List.length_drop,hlen];have:m1<=n - first:=by rw[q];exact Nat.min_le_left _ _
   omega
  have I:=fun ty=>Mx F.drew ty lb 0 m m m1 ⟨g,first * 2,none⟩ (n - first) (c - first) _ ((ys.drop first).take m1) N q.symm Q (by rw[size_madeCells];omega) k
  have t:=Zz (Zq k (Zq Q q))
  try simp only[Nat.mul_one] at I
  clear r hm Z hlen i b hf M U k Q p N h D q
  go_enter func211,ntmps211
  go_upto_region 4 with (go_at_call 199;refine HE.o.mono ?_;rintro e w9 ⟨rfl,ax⟩;rw[ax])
  try rw[<-f.o.2.1]
  go_region
  obtain⟨G,E⟩:∃G,G=F.drew.setCells lb 0 (((ys.drop first).take m1).flatMap AY):=⟨_,rfl⟩
  try rw[<-E]
  have l:=Zaq ((ys.drop first).take m1);have L:Below w.heap.size w G:=by rw[E];exact Zdr f.o.1.drew _ _ _ (by have:=f.o.2.1;omega)
  obtain⟨d,k1,k2,k3⟩:=Zcm lb 274 (((ys.drop first).take m1).flatMap AY) 0 F.drew _ f.o.2.2 (by rw[size_madeCells,l,t.o.2.1,Nat.zero_add];exact Nat.mul_le_mul_right _ X);rw[<-E] at k1;rw[size_madeCells] at k2
  have ae:d.toList.take (m1 * 2)=((ys.drop first).take m1).flatMap AY:=by
   rw[k3];simp only[List.take_zero,List.nil_append];rw[List.take_append_of_le_length (by rw[l,t.o.2.1];exact Zx _),List.take_of_length_le (by rw[l,t.o.2.1];exact Zx _)]
  have s:=Zz (Zq L (Zq k1 (Zq k2 ae)));have al:P<w.heap.size:=by have:=HP.o;omega
  have c0:=(World.cell?_of_block (a:=⟨P,8,none⟩) (L.block P al)).trans (ag.o);clear I k1 k2 k3 ae E L l c1 c2;by_cases T:m1=m
  ·subst T
   have J:∀A C,∀ty,(Builtin.copy_ #[152,152] ty #[.slice A 0 C, .slice (some ⟨g,0,none⟩) n c]).run prog G.drew= .ok (goInt 0) G.drew:=fun A C ty=>Zc0 G.drew 152 152 ty 274 2 A _ 0 C n c underlying152 KM (Nat.min_zero _);go_wp2_with fail
   go_region
   go_wp2_with fail
   go_ret
   obtain⟨q1,q2,q3,q4⟩:=s.o;obtain⟨x1,x2,x3,_⟩:=y.o
   have hle:m1<=n - first:=by
    have:=t.o.2.2;rw[this];exact Nat.min_le_left _ _
   have S:xs.flatMap AY=d.toList.take (m1 * 2):=by
    rw[q4,x2,<-x1,show m1 - (ys.length - first)=0 by omega];simp
   refine⟨some ⟨lb,0,none⟩,m1,rfl,⟨by rw[Zaq,<-x1],Zj ⟨lb,m1,d,rfl,by have:=f.o.2.1;omega,q2,Zx _,by unfold maxLen;omega,q3,S.symm⟩⟩,⟨q1.os,q1.tape,q1.output,q1.size,q1.block⟩⟩
  ·have u:m1=n - first:=by
    have:=t.o.2.2;rcases Nat.le_total (n - first) m with z | z
    ·rw[this];exact Nat.min_eq_left z
    ·exact absurd (this.trans (Nat.min_eq_right z)) T
   obtain⟨m2,O⟩:∃m2,m2=m - m1:=⟨_,rfl⟩
   have x:∀j v,((ys.take m2).flatMap AY)[j]? =some v->G.drew.cell? (Addr.add ⟨g,0,none⟩ j)=some v:=by
    intro j v Y
    have W:j<m2 * 2:=by
     have:=(List.getElem?_eq_some_iff.1 Y).1;rw[Zaq,List.length_take] at this;have:=Nat.min_le_left m2 ys.length;omega
    rw[Zce];refine (World.cell?_of_block (a:=⟨g,0+j,none⟩) (s.o.1.block g V)).trans ?_;rw[y.o.2.2.2 _ (by omega),<-Y,<-DP,List.getElem?_take_of_lt W,Nat.zero_add]
   have R:(ys.take m2).length=m2:=by rw[List.length_take,y.o.2.2.1];omega
   have J:=fun ty=>Mx G.drew ty lb (m1 * 2) m2 m2 m2 ⟨g,0,none⟩ n c d (ys.take m2) s.o.2.1 (by show min n m2=m2;omega) R (by rw[s.o.2.2.1,<-Nat.add_mul];exact Nat.mul_le_mul_right _ (by omega)) x
   try simp only[Nat.mul_one] at J
   have g5:(m1:Int)<=(m:Int):=by omega
   have g6:m - m1=m2:=O.symm;have g7:¬(m=m1):=fun e=>T e.symm;have aj:=Zz (Zq O (Zq u R));clear x u R O T;go_wp2_with fail
   go_region
   go_wp2_with fail
   go_ret
   obtain⟨q1,q2,q3,q4⟩:=s.o;obtain⟨x1,x2,x3,_⟩:=y.o;obtain⟨y1,y2,y3⟩:=aj.o;have K:=Zaq (ys.take m2);obtain⟨H,k1,k2,k3⟩:=Zcm lb 274 ((ys.take m2).flatMap AY) (m1 * 2) G.drew d q2 (by rw[K,y3,q3,<-Nat.add_mul];exact Nat.mul_le_mul_right _ (by omega))
   have S:H.toList.take (m * 2)=xs.flatMap AY:=by
    have e1:m * 2=(d.toList.take (m1 * 2)++(ys.take m2).flatMap AY).length:=by
     rw[ZX,List.length_take,Array.length_toList,q3,K,y3];omega
    rw[k3,e1,List.take_append_of_le_length (Zx _),List.take_length,q4,x2,<-x1,List.flatMap_append,show m - (ys.length - first)=m2 by omega];have hd:(ys.drop first).length<=m:=by rw[List.length_drop];omega
    have au:(ys.drop first).length<=m1:=by rw[List.length_drop];omega
    rw[List.take_of_length_le hd,List.take_of_length_le au]
   refine⟨some ⟨lb,0,none⟩,m,rfl,⟨by rw[Zaq,<-x1],Zj ⟨lb,m,H,rfl,by have:=f.o.2.1;omega,(by first | exact k1 | (rw[Nat.mul_one] at k1;exact k1)),Zx _,by unfold maxLen;omega,by rw[k2,q3],S⟩⟩,?_⟩;exact Zdr q1.drew _ _ _ (by have:=f.o.2.1;omega)
theorem Zo (ys:List AZ)(p:Nat)(x:AZ)(hp:p<ys.length):(ys.flatMap AY).take (p * 2)++AY x++(ys.flatMap AY).drop (p * 2+2)=(ys.set p x).flatMap AY:=by
 rw[DP,show p * 2+2=(p+1) * 2 by omega,Fb,List.set_eq_take_append_cons_drop,if_pos hp,List.flatMap_append,List.flatMap_cons,List.append_assoc]
theorem LX {g n p:Nat}(h:w.ownsRow B 274 2 (.slice (some ⟨g,0,none⟩) n c) n (ys.flatMap AY))(hl:ys.length=n)(hp:p<n)(x:AZ):(w.setCells g (p * 2) (AY x)).ownsRow B 274 2 (.slice (some ⟨g,0,none⟩) n c) n ((ys.set p x).flatMap AY):=by
 rcases h.2 with⟨e,_⟩ | ⟨j,cap,cur,e,hg,hh,f,k,q,l⟩
 ·cases e
 ·obtain⟨rfl,rfl⟩:g=j/\c=cap:=by simpa using e
  have o:p * 2+2<=n * 2:=by have:=Nat.mul_le_mul_right 2 (show p+1<=n by omega);omega
  have m:n * 2<=c * 2:=Nat.mul_le_mul_right _ f;have b:=Zbp x;obtain⟨d,k1,k2,k3⟩:=Zcm g 274 (AY x) (p * 2) w cur hh (by omega);refine⟨by rw[Zaq,List.length_set,hl],Zj ⟨g,c,d,rfl,hg,k1,f,k,by omega,?_⟩⟩;rw[<-Zo ys p x (by omega),<-l,k3,b];have i:(cur.toList.take (n * 2)).take (p * 2)=cur.toList.take (p * 2):=by rw[List.take_take,Nat.min_eq_left (by omega)]
  rw[i,List.take_append,List.take_of_length_le (by rw[ZX,List.length_take,Array.length_toList,b];omega),ZX,List.length_take,Array.length_toList,b,Nat.min_eq_left (by omega),List.drop_take]
theorem FV.frame {P n first:Nat}(h:FV w P B a n c first ys xs)(i:w.heap.size<=w'.heap.size)(d:∀o,8<=o->o<11->w'.cell? ⟨P,o,none⟩=w.cell? ⟨P,o,none⟩)(hf:∀o,w'.frozen? ⟨P,o,none⟩=w.frozen? ⟨P,o,none⟩)(f:∀z,(Value.slice a n c).ownBlock=some z->w'.heap[z]? =w.heap[z]?):FV w' P B a n c first ys xs:=by
 refine⟨(d 8 (by omega) (by omega)).trans h.c0,(d 9 (by omega) (by omega)).trans h.c1,(d 10 (by omega) (by omega)).trans h.c2,fun o=>(hf o).trans (h.fz o),⟨h.row.1,?_⟩,h.len,h.ring,h.Bs,h.pb,Zv h.bs i⟩;rcases h.row.2 with b | ⟨g,cap,cur,b,hg,hh,e⟩
 ·exact Zu b
 ·exact Zj ⟨g,cap,cur,b,hg,(f g (by rw[b];rfl)).trans hh,e⟩
theorem FV.below {P n first:Nat}(h:FV w P B a n c first ys xs)(b:Below w.heap.size w w'):FV w' P B a n c first ys xs:=by
 have d:P<w.heap.size:=Zy h.pb h.bs;exact h.frame b.size (fun o _ _=>World.cell?_of_block (a:=⟨P,o,none⟩) (b.block P d)) (fun o=>World.frozen?_of_block (a:=⟨P,o,none⟩) (b.block P d)) (fun z e=>b.block z (h.row.lt z e).2)
theorem FV.CX {P g n first:Nat}(h:FV w P B (some ⟨g,0,none⟩) n c first ys xs)(p:xs.length<n)(x:AZ) :
  FV (((w.setCells g ((first+xs.length) % n * 2) (AY x)).setCell ⟨P,10,none⟩ (.int .i64 (xs.length+1:Nat))).drew) P B (some ⟨g,0,none⟩) n c first (ys.set ((first+xs.length) % n) x) (xs++[x])/\RF w (((w.setCells g ((first+xs.length) % n * 2) (AY x)).setCell ⟨P,10,none⟩ (.int .i64 (xs.length+1:Nat))).drew) P (some g) 8 11:=by
 have d:g≠P:=by
  have:=(h.row.lt g rfl).1;have:=h.pb;omega
 have f:(first+xs.length) % n<n:=Nat.mod_lt _ (by omega);have i:=LX h.row h.len f x;have j:∀o,(w.setCells g ((first+xs.length) % n * 2) (AY x)).cell? ⟨P,o,none⟩=w.cell? ⟨P,o,none⟩:=fun o=>World.cell?_of_block (a:=⟨P,o,none⟩) (Zap g P (Ne.symm d) _ _ _);have b:∀o,(w.setCells g ((first+xs.length) % n * 2) (AY x)).frozen? ⟨P,o,none⟩=w.frozen? ⟨P,o,none⟩:=fun o=>World.frozen?_of_block (a:=⟨P,o,none⟩) (Zap g P (Ne.symm d) _ _ _);obtain⟨s1,s2,s3,q⟩:=Zbt w g ((first+xs.length) % n * 2) (AY x);have hlen:=h.len
 generalize m:w.setCells g ((first+xs.length) % n * 2) (AY x)=w1 at *
 refine⟨⟨?_,?_,?_,fun o=> ?_,?_,by rw[List.length_set];exact h.len,?_,h.Bs,h.pb,?_⟩,?_⟩
 ·exact (Zac w1 P 10 8 _ (by decide)).trans ((j 8).trans h.c0)
 ·exact (Zac w1 P 10 9 _ (by decide)).trans ((j 9).trans h.c1)
 ·rw[ZX,List.length_singleton]
  exact World.cell?_setCell_same w1 ⟨P,10,none⟩ _ ((j 10).trans h.c2)
 ·exact (World.frozen?_setCell w1 ⟨P,10,none⟩ _ _).trans ((b o).trans (h.fz o))
 ·exact (ownsRow_setCell_below i h.pb _).drew
 ·have:=h.ring.push (by omega) x
  rw[hlen] at this;exact this
 ·show B<=(World.setCell w1 ⟨P,10,none⟩ _).heap.size
  simp only[World.setCell,Array.size_modify];rw[s1];exact h.bs
 ·refine⟨s2,s3,q,?_,fun k r l p=> ?_,fun _ o s=> ?_,fun _ o=> ?_⟩
  ·show w.heap.size<=(World.setCell w1 ⟨P,10,none⟩ _).heap.size
   simp only[World.setCell,Array.size_modify];rw[s1];exact Zx _
  ·refine (Zl w1 ⟨P,10,none⟩ _ k l).trans ?_
   rw[<-m];exact Zap g k (fun e=>p (by rw[e])) _ _ _
  ·exact (Zac w1 P 10 o _ (by omega)).trans (j o)
  ·exact (World.frozen?_setCell w1 ⟨P,10,none⟩ _ _).trans (b o)
theorem NW {b N m:Nat}{cur:Array Value}(hw:w.heap[b]? =some (.cells cur 274 (0,0)))(h:w.ownsRow B 274 2 (.slice a m c) m (xs.flatMap AY))(hm:m=xs.length)(f:m<=N)(n:cur.size=N * 2)(ty:TypeId) :
  (Builtin.copy_ #[152,152] ty #[.slice (some ⟨b,0,none⟩) N N, .slice a m c]).run prog w= .ok (goInt m) (w.setCells b 0 (xs.flatMap AY)):=by
 rcases h.2 with⟨d,p⟩ | ⟨g,cap,e,d,hg,hh,q⟩
 ·have k:m=0:=by
   simp only[Value.slice.injEq] at d;omega
  have o:xs=[]:=List.eq_nil_of_length_eq_zero (by omega);subst o k;exact Zc0 w 152 152 ty 274 2 _ a N N 0 c underlying152 KM (Nat.zero_min _)
 ·obtain⟨rfl,_,rfl⟩:a=some ⟨g,0,none⟩/\m=m/\c=cap:=by simpa using d
  refine Mx w ty b 0 N N m ⟨g,0,none⟩ m c cur xs hw (Nat.min_eq_left f) hm.symm (by rw[n,Nat.zero_add];exact Nat.mul_le_mul_right _ f) (fun j v i=> ?_)
  have l:j<m * 2:=by
   have:=(List.getElem?_eq_some_iff.1 i).1;rw[Zaq] at this;rw[hm];exact this
  rw[Zce,Nat.zero_add,h.cellAt j l];exact i
theorem FV.grown {e:World}{P n first nb N:Nat}(h:FV w P B a n c first ys xs)(s:Below w.heap.size w e)(j:w.heap.size<=nb)(hl:e.heap[nb]? =some (.cells (madeCells (.agg #[.int .u64 0, .int .i64 0]:Value).cells (N * 2)) 274 (0,0)))(r:xs.length+1<=N/\N<=1000) :
  FV (((e.setCells nb 0 (xs.flatMap AY)).setCell ⟨P,8,none⟩ (.slice (some ⟨nb,0,none⟩) N N)).setCell ⟨P,9,none⟩ (.int .i64 0)) P B (some ⟨nb,0,none⟩) N N 0 (xs++List.replicate (N - xs.length) (⟨0,0⟩:AZ)) xs/\RF w (((e.setCells nb 0 (xs.flatMap AY)).setCell ⟨P,8,none⟩ (.slice (some ⟨nb,0,none⟩) N N)).setCell ⟨P,9,none⟩ (.int .i64 0)) P (Value.slice a n c).ownBlock 8 11:=by
 have g:P<w.heap.size:=Zy h.pb h.bs;have p:=Zaq xs;have x:xs.length * 2<=N * 2:=Nat.mul_le_mul_right _ (by omega);obtain⟨d,k1,k2,k3⟩:=Zcm nb 274 (xs.flatMap AY) 0 e _ hl (by rw[size_madeCells];omega);have b:=Zdr s nb 0 (xs.flatMap AY) j
 generalize v:e.setCells nb 0 (xs.flatMap AY)=w4 at *
 have m:∀o,w4.cell? ⟨P,o,none⟩=w.cell? ⟨P,o,none⟩:=fun o=>World.cell?_of_block (a:=⟨P,o,none⟩) (b.block P g);have f:∀o,w4.frozen? ⟨P,o,none⟩=w.frozen? ⟨P,o,none⟩:=fun o=>World.frozen?_of_block (a:=⟨P,o,none⟩) (b.block P g)
 have l:w4.ownsRow B 274 2 (.slice (some ⟨nb,0,none⟩) N N) N ((xs++List.replicate (N - xs.length) (⟨0,0⟩:AZ)).flatMap AY):=by
  refine⟨by rw[Zaq];simp;omega,Zj ⟨nb,N,d,rfl,Zv h.bs j,k1,Zx _,by unfold maxLen;omega,by rw[k2,size_madeCells],?_⟩⟩;have q:d.toList.take (N * 2)=d.toList:=List.take_of_length_le (by rw[Array.length_toList,k2,size_madeCells];exact Zx _);rw[q,k3,madeTR,List.take_zero,List.nil_append,List.flatMap_append,Nat.zero_add,p,Fb,List.drop_replicate]
 refine⟨⟨?_,?_,?_,fun o=> ?_,?_,by simp;omega,Bq.MZ _ _,r.2,h.pb,?_⟩,⟨b.os,b.tape,b.output,?_,fun k t i _=> ?_,fun _ o y=> ?_,fun _ o=> ?_⟩⟩
 ·rw[Zac _ P 9 8 _ (by decide)]
  exact World.cell?_setCell_same _ _ _ ((m 8).trans h.c0)
 ·exact World.cell?_setCell_same _ _ _ (u:= .int .i64 first) (by rw[Zac _ P 8 9 _ (by decide)];exact (m 9).trans h.c1)
 ·rw[Zac _ P 9 10 _ (by decide),Zac _ P 8 10 _ (by decide)];exact (m 10).trans h.c2
 ·rw[World.frozen?_setCell,World.frozen?_setCell];exact (f o).trans (h.fz o)
 ·exact ownsRow_setCell_below (ownsRow_setCell_below l h.pb _) h.pb _
 ·simp only[World.setCell,Array.size_modify]
  exact Zv h.bs b.size
 ·simp only[World.setCell,Array.size_modify]
  exact b.size
 ·exact (Zl _ ⟨P,9,none⟩ _ k i).trans ((Zl _ ⟨P,8,none⟩ _ k i).trans (b.block k t))
 ·rw[Zac _ P 9 o _ (by omega),Zac _ P 8 o _ (by omega)];exact m o
 ·rw[World.frozen?_setCell,World.frozen?_setCell];exact f o
end Go.Proofs.YtgdcjccbdmcebaaGreatDoor
