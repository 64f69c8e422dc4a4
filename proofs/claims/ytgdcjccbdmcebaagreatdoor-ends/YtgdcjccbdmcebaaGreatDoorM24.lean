import Derived.Test.YtgdcjccbdmcebaaGreatDoorM21
import Derived.Test.YtgdcjccbdmcebaaGreatDoorM23
set_option linter.unusedSimpArgs false
set_option linter.unusedVariables false
set_option maxHeartbeats 4000000
set_option maxRecDepth 100000
namespace Go.Proofs.YtgdcjccbdmcebaaGreatDoor
open Tryz
open Go.RowKit
attribute [local go_sem ↓] Go.wp_at_zero Go.wp_at_succ
variable {e e':Ab}{i k c g n B0 j:Nat}{xs ys:List AZ}{w wr:World}{id t:Int}{f:AM->AM}{a:Option Addr}
def Zdy (l:List AZ)(id:Int):List AZ:=l.filter (fun p=> !(p.run == id))
theorem OF (l:List AZ)(id:Int):kept l id l.length=Zdy l id:=by unfold kept Zdy;rw[List.take_length]
theorem QH {B m:Nat}(h:w.ownsRow B 274 2 (.slice (some ⟨g,0,none⟩) n c) n (ys.flatMap AY))(hl:ys.length=n)(hm:m<=n):w.ownsRow B 274 2 (.slice (some ⟨g,0,none⟩) m c) m ((ys.take m).flatMap AY):=by
 rcases h.2 with⟨b,_⟩ | ⟨d,cap,cur,b,hg,hh,q,l,o,p⟩
 ·cases b
 ·obtain⟨rfl,rfl⟩:g=d/\c=cap:=by simpa using b
  refine⟨by rw[Zaq,List.length_take];omega,Zj ⟨g,c,cur,rfl,hg,hh,by omega,l,o,?_⟩⟩;rw[<-DP,<-p,List.take_take,Nat.min_eq_left (Nat.mul_le_mul_right _ hm)]
theorem QG {B p:Nat}(h:w.ownsRow B 274 2 (.slice (some ⟨g,0,none⟩) n c) n (ys.flatMap AY))(hl:ys.length=n)(b:List AZ)(hp:p+b.length<=n):(w.setCells g (p * 2) (b.flatMap AY)).ownsRow B 274 2 (.slice (some ⟨g,0,none⟩) n c) n ((ys.take p++b++ys.drop (p+b.length)).flatMap AY):=by
 have d:=Zaq b;rcases h.2 with⟨m,_⟩ | ⟨r,cap,cur,m,hg,hh,o,s,y,u⟩
 ·cases m
 ·obtain⟨rfl,rfl⟩:g=r/\c=cap:=by simpa using m
  have x:p * 2+b.length * 2<=n * 2:=by rw[<-Nat.add_mul];exact Nat.mul_le_mul_right _ hp
  have v:n * 2<=c * 2:=Nat.mul_le_mul_right _ o;obtain⟨l,k1,k2,k3⟩:=Zcm g 274 (b.flatMap AY) (p * 2) w cur hh (by omega);refine⟨by rw[Zaq];simp;omega,Zj ⟨g,c,l,rfl,hg,k1,o,s,by omega,?_⟩⟩
  have e0:(ys.take p++b++ys.drop (p+b.length)).flatMap AY=(ys.flatMap AY).take (p * 2)++b.flatMap AY++(ys.flatMap AY).drop (p * 2+b.length * 2):=by
   rw[List.flatMap_append,List.flatMap_append,DP,<-Nat.add_mul,Fb]
  rw[e0,<-u,k3,d];have q:(cur.toList.take (n * 2)).take (p * 2)=cur.toList.take (p * 2):=by rw[List.take_take,Nat.min_eq_left (by omega)]
  rw[q,List.take_append,List.take_of_length_le (by rw[ZX,List.length_take,Array.length_toList,d];omega),ZX,List.length_take,Array.length_toList,d,Nat.min_eq_left (by omega),List.drop_take]
structure FB (w wr:World)(B0 g n c:Nat)(xs:List AZ)(id:Int)(i j:Nat):Prop where
 row:∃ys:List AZ,ys.length=n/\wr.ownsRow B0 274 2 (.slice (some ⟨g,0,none⟩) n c) n (ys.flatMap AY)/\ys.take i=kept xs id j/\ys.drop j=xs.drop j
 Dt:Below B0 w wr
 ij:i<j
 jn:j<=n
 il:i=(kept xs id j).length
theorem FB.below {b:World}(h:FB w wr B0 g n c xs id i j)(d:Below wr.heap.size wr b)(l:B0<=wr.heap.size):FB w b B0 g n c xs id i j:=by
 obtain⟨⟨ys,r,s,u,v⟩,m,o,p,q⟩:=h;exact⟨⟨ys,r,Zam s d,u,v⟩,m.trans (d.mono l),o,p,q⟩
theorem Lu {B:Nat}(o:w.ownsRow B 274 2 (.slice (some ⟨g,0,none⟩) n c) n (ys.flatMap AY))(hn:ys.length=n)(hi:i<n):w.cell? ⟨g,i * 2,none⟩=some (.int .u64 (ys.getD i ⟨0,0⟩).run)/\w.cell? ⟨g,i * 2+1,none⟩=some (.int .i64 (ys.getD i ⟨0,0⟩).node):=by
 have h:ys.getD i ⟨0,0⟩=ys[i]'(by omega):=by rw[ZQ,ZZ (by omega)];rfl
 have b:∀j u,(AY (ys.getD i ⟨0,0⟩))[j]? =some u->w.cell? ⟨g,i * 2+j,none⟩=some u:=by
  intro j u l;have d:j<2:=by have:=(List.getElem?_eq_some_iff.1 l).1;rwa[Zbp] at this
  rw[o.cellAt _ (by omega)]
  have m:ys.flatMap AY=(ys.take i).flatMap AY++(AY (ys.getD i ⟨0,0⟩)++(ys.drop (i+1)).flatMap AY):=by
   conv=>lhs;rw[<-List.take_append_drop i ys,List.drop_eq_getElem_cons (by omega)]
   rw[List.flatMap_append,List.flatMap_cons,h]
  rw[m,List.getElem?_append_right (by rw[Zaq,List.length_take,Nat.min_eq_left (by omega)];omega),Zaq,List.length_take,Nat.min_eq_left (by omega),Nat.add_sub_cancel_left,List.getElem?_append_left (by rw[Zbp];exact d)];exact l
 exact⟨b 0 _ rfl,b 1 _ rfl⟩
theorem FB.cell (h:FB w wr B0 g n c xs id i j)(hn:xs.length=n)(d:j<n):wr.cell? ⟨g,j * 2,none⟩=some (.int .u64 (xs.getD j ⟨0,0⟩).run)/\wr.cell? ⟨g,j * 2+1,none⟩=some (.int .i64 (xs.getD j ⟨0,0⟩).node):=by
 obtain⟨⟨ys,l,m,p,o⟩,_⟩:=h;have:=Lu m l d
 have e:ys.getD j ⟨0,0⟩=xs.getD j ⟨0,0⟩:=by
  have b:(ys.drop j)[0]? =(xs.drop j)[0]? :=by rw[o]
  rw[List.getElem?_drop,List.getElem?_drop,Nat.add_zero] at b;rw[ZQ,ZQ,b]
 rw[e] at this;exact this
theorem FB.place (h:FB w wr B0 g n c xs id i j):∃u v,wr.cell? ⟨g,i * 2,none⟩=some u/\wr.cell? ⟨g,i * 2+1,none⟩=some v/\wr.frozen? ⟨g,i * 2,none⟩=false/\wr.frozen? ⟨g,i * 2+1,none⟩=false:=by
 obtain⟨⟨ys,d,b,q,r⟩,l,m,o,p⟩:=h;obtain⟨c0,c1⟩:=Lu (i:=i) b d (by omega);exact⟨_,_,c0,c1,b.frozenAt _,b.frozenAt _⟩
theorem FB.skip (h:FB w wr B0 g n c xs id i j)(hn:xs.length=n)(u:j<n)(he:(xs.getD j ⟨0,0⟩).run=id):FB w wr B0 g n c xs id i (j+1):=by
 obtain⟨⟨ys,m,o,p,q⟩,d,r,s,l⟩:=h;have b:=Ig xs id (k:=j) (by omega);rw[if_pos he,List.append_nil] at b;refine⟨⟨ys,m,o,by rw[b];exact p,?_⟩,d,by omega,by omega,by rw[b];exact l⟩;have:=congrArg (List.drop 1) q;rw[List.drop_drop,List.drop_drop] at this;exact this
theorem FB.Aj (h:FB w wr B0 g n c xs id i j)(hn:xs.length=n)(v:j<n)(he:(xs.getD j ⟨0,0⟩).run≠id)(hg:B0<=g) :
  FB w (wr.setCells g (i * 2) (AY (xs.getD j ⟨0,0⟩))) B0 g n c xs id (i+1) (j+1):=by
 obtain⟨⟨ys,d,p,q,r⟩,l,s,u,m⟩:=h;have b:=Ig xs id (k:=j) (by omega);rw[if_neg he] at b;have o:=LX p d (show i<n by omega) (xs.getD j ⟨0,0⟩);refine⟨⟨ys.set i (xs.getD j ⟨0,0⟩),by rw[List.length_set];exact d,o,?_,?_⟩,Zdr l _ _ _ hg,by omega,by omega,by rw[b,ZX,<-m];rfl⟩
 ·rw[b,<-q,List.take_add_one,List.take_set_of_le (by omega),List.getElem?_set_self (by omega)]
  rfl
 ·rw[List.drop_set_of_lt (by omega)]
  have:=congrArg (List.drop 1) r;rw[List.drop_drop,List.drop_drop] at this;exact this
theorem FB.end_ (h:FB w wr B0 g n c xs id i n)(hn:xs.length=n)(hg:B0<=g):i=(Zdy xs id).length/\(wr.setCells g (i * 2) ((List.replicate (n - i) (⟨0,0⟩:AZ)).flatMap AY)).ownsRow B0 274 2 (.slice (some ⟨g,0,none⟩) i c) i ((Zdy xs id).flatMap AY)/\Below B0 w (wr.setCells g (i * 2) ((List.replicate (n - i) (⟨0,0⟩:AZ)).flatMap AY)):=by
 obtain⟨⟨ys,q,r,l,v⟩,m,s,u,b⟩:=h;rw[<-hn,OF] at l b;have o:=QG r q (p:=i) (List.replicate (n - i) (⟨0,0⟩:AZ)) (by simp;omega);have d:=QH o (by simp;omega) (show i<=n by omega);refine⟨b,?_,Zdr m _ _ _ hg⟩;rw[List.append_assoc,List.take_append_of_le_length (by rw[List.length_take];omega),List.take_take,Nat.min_self,l] at d;exact d
theorem NZ (w:World)(B0:Nat)(a:Option Addr)(n c J rb:Nat)(id:Int)(xs:List AZ)(h:w.ownsRow B0 274 2 (.slice a n c) n (xs.flatMap AY))(hn:xs.length=n)(L:n<=1000)(hg:EB w J rb id)(Y:J<B0)(ag:rb<B0)(X:B0<=w.heap.size) :
  Calls prog 273 #[.slice a n c, .func (.func 230) #[] #[.pointer (some ⟨J,0,none⟩)]] w fun e w'=>∃a' m c',e= .returned (.slice a' m c')/\m=(Zdy xs id).length/\w'.ownsRow B0 274 2 (.slice a' m c') m ((Zdy xs id).flatMap AY)/\Below B0 w w':=by
 have U:=Zz (Vp w B0 B0 a n c J rb id xs h hn L hg);have r:=Zz (Zq h (Zq hn (Zq hg (Zq Y (Zq ag X)))));obtain⟨S,u⟩:∃S,S=Td xs id:=⟨_,rfl⟩;rw[<-u] at U;have HX:=Zz u;by_cases hf:Zc5 xs id<xs.length
 ·have e:S=(Zc5 xs id:Int):=by rw[u];unfold Td;rw[if_pos hf]
  obtain⟨f,F⟩:∃f,f=Zc5 xs id:=⟨_,rfl⟩;rw[<-F] at e;subst e;have au:f<n:=by omega
  obtain⟨g,cur,rfl,M,av,G⟩:∃g cur,a=some ⟨g,0,none⟩/\w.heap[g]? =some (.cells cur 274 (0,0))/\n<=c/\B0<=g:=by
   rcases h.2 with⟨D,_⟩ | ⟨g,cap,cur,D,G,hh,W,h4,_⟩
   ·simp only[Value.slice.injEq] at D;omega
   ·obtain⟨rfl,_,rfl⟩:a=some ⟨g,0,none⟩/\n=n/\c=cap:=by simpa using D
    exact⟨g,cur,rfl,hh,W,G⟩
  have HF:=Zz (Zq F (Zq hf (Zq M G)));have e1:((f:Int) == -1)=false:=by simp
  have aj:decide ((f:Int)= -1)=false:=decide_eq_false (by omega);clear h hn hg u F hf M
  go_enter func273,ntmps273
  go_wp2_with (go_at_call 286;refine U.o.mono ?_;rintro e w1 ⟨rfl,v⟩;have s:=Zz v;clear v)
  go_loopw [5,6] (fun iv jv wr=>∃i j:Nat,iv= .int .i64 i/\jv= .int .i64 j/\FB w wr B0 g n c xs id i j/\w.heap.size<=wr.heap.size) (fun _ jv _=>n - (intOf jv).toNat)
  case atStart =>
   obtain⟨ho,hn,_⟩:=r.o;obtain⟨q1,B,O,P⟩:=HF.o;have z:=Ig xs id B
   have he:(xs.getD (Zc5 xs id) ⟨0,0⟩).run=id:=by
    rw[ZQ,ZZ B];exact eq_of_beq (List.findIdx_getElem (p:=fun p:AZ=>p.run == id) (w:=B))
   rw[if_pos he,List.append_nil,JX xs id (Zx _),<-q1] at z;refine⟨f,f+1,rfl,rfl,⟨⟨xs,hn,Zam ho s.o,z.symm,rfl⟩,s.o.mono (by have:=r.o.2.2.2.2.2;omega),by omega,by omega,by rw[z,List.length_take];omega⟩,s.o.size⟩
  case round =>
   obtain⟨i,j,rfl,rfl,b,N⟩:=hrel;have HA:=Zz b;have l:=Zz N;clear N;by_cases hj:j<n
   ·obtain⟨t0,t1⟩:=b.cell r.o.2.1 hj
    obtain⟨x,hx⟩:∃x,x=xs.getD j ⟨0,0⟩:=⟨_,rfl⟩;rw[<-hx] at t0 t1;obtain⟨vb,H⟩:∃vb,vb=wr.heap.size:=⟨_,rfl⟩;obtain⟨Q,y⟩:∃Q,Q=wr.alloc (.cells #[.int .u64 x.run, .int .i64 x.node] 274):=⟨_,rfl⟩;have E:Below wr.heap.size wr Q:=by rw[y];exact (Zk _ _).alloc (Zx _) _
    obtain⟨z0,z1⟩:=(show _/\_ from y▸Zcz wr x.run x.node);rw[<-H] at z0 z1;have aw:vb<Q.heap.size:=by rw[y];simp;omega
    have Z:=b.ij;have C:=Zz (Zq E (Zq H (Zq y hx)));have R:=Zz (Ow Q J rb id x.run x.node ((r.o.2.2.1.below b.Dt r.o.2.2.2.1 r.o.2.2.2.2.1).below E (by have:=r.o.2.2.2;have:=l.o;omega) (by have:=r.o.2.2.2;have:=l.o;omega)));have i1:(j:Int)<(n:Int):=by omega
    have ii:(i:Int)<(n:Int):=by omega
    clear E H y hx b;by_cases e:x.run=id
    ·have K:decide (x.run=id)=true:=decide_eq_true e
     rw[K] at R;have T:=Zz e;clear e K;go_wp2_with (go_at_call 230;rw[<-C.o.2.2.1];refine R.o.mono ?_;rintro e w3 ⟨rfl,q⟩;have A:=Zz q;clear q)
     go_roundw
     case rel =>
      obtain⟨q1,B,O,P⟩:=C.o;exact⟨i,j+1,by go_num,by go_num,((HA.o.skip r.o.2.1 hj (by rw[<-P];exact T.o)).below q1 (by have:=r.o.2.2.2.2.2;have:=l.o;omega)).below A.o (by have:=r.o.2.2.2.2.2;have:=l.o;have:=q1.size;omega),by have:=l.o;have:=q1.size;have:=A.o.size;omega⟩
     case measure=>simp[intOf];omega
    ·have K:decide (x.run=id)=false:=decide_eq_false e
     rw[K] at R;have T:=Zz e;clear e K;go_wp2_with (go_at_call 230;rw[<-C.o.2.2.1,<-C.o.2.1];refine R.o.mono ?_;rintro e w3 ⟨rfl,q⟩;have A:=Zz q;have I:=Zz ((HA.o.below C.o.1 (by have:=r.o.2.2.2.2.2;have:=l.o;omega)).below q (by have:=r.o.2.2.2.2.2;have:=l.o;have:=C.o.1.size;omega));obtain⟨y0,y1,y2,y3,y4,y5⟩:=I.o.place;have z0:=cell_later q z0;have z1:=cell_later q z1;clear q)
     go_roundw
     case rel =>
      obtain⟨q1,B,O,P⟩:=C.o;have z:=I.o.Aj r.o.2.1 hj (by rw[<-P];exact T.o) HF.o.2.2.2;rw[<-P] at z;exact⟨i+1,j+1,by go_num,by go_num,z,by have:=l.o;have:=q1.size;have:=A.o.size;simp only[World.setCell,Array.size_modify];omega⟩
     case measure=>simp[intOf];omega
   ·have ae:j=n:=by have:=b.jn;omega
    subst ae;obtain⟨q1,B,O⟩:=b.end_ r.o.2.1 HF.o.2.2.2;have Z:=b.ij;obtain⟨ys,y1,y2,y6⟩:=b.row
    obtain⟨d,k1,k2⟩:∃d,wr.heap[g]? =some (.cells d 274 (0,0))/\j * 2<=d.size:=by
     rcases y2.2 with⟨D,_⟩ | ⟨g',cap,d,D,_,hh,W,h4,h5,_⟩
     ·cases D
     ·obtain⟨rfl,rfl⟩:g=g'/\c=cap:=by simpa using D
      exact⟨d,hh,by have:=Nat.mul_le_mul_right 2 W;omega⟩
    have ar:=fun ty=>Mw wr g i (j - i) (c - i) d k1 (by rw[show i+(j - i)=j by omega];exact k2) (by omega) ty
    have V:=Zz (Zq q1 (Zq B O));have i1:¬(j:Int)<(j:Int):=by omega
    have al:¬c=i:=by omega
    clear q1 B O y6 y1 y2 k1 k2 b
    generalize wr.setCells g (i * 2) ((List.replicate (j - i) (⟨0,0⟩:AZ)).flatMap AY)=w5 at *
    go_wp2_with fail
    go_ret
    exact⟨some ⟨g,0,none⟩,i,c,rfl,V.o.1,V.o.2.1,V.o.2.2⟩
 ·have e:S= -1:=by rw[u];unfold Td;rw[if_neg hf]
  subst e;have HF:=Zz hf;clear h hn hg u hf
  go_enter func273,ntmps273
  go_wp2_with (go_at_call 286;refine U.o.mono ?_;rintro e w1 ⟨rfl,v⟩;have s:=Zz v;clear v)
  go_ret
  obtain⟨ho,hn,_,_,_,X⟩:=r.o;have z:=JX xs id (k:=xs.length) (by have:=HF.o;unfold Zc5 at *;omega);rw[OF,List.take_length] at z;exact⟨a,n,c,rfl,by rw[z,hn],by rw[z];exact Zam ho s.o,s.o.mono X⟩
theorem UK (w:World)(ty:TypeId)(a:Option Addr)(c:Nat):(Builtin.clear_ #[152] ty #[.slice a 0 c]).run prog w= .ok (.tuple #[]) w:=by
 cases a<;>simp[Builtin.clear_,run_underlying underlying152]
theorem UL {B b N M m:Nat}{cur:Array Value}(hw:w.heap[b]? =some (.cells cur 274 (0,0)))(o:w.ownsRow B 274 2 (.slice a m c) m (xs.flatMap AY))(hm:m=xs.length)(l:m<=N)(s:N * 2<=cur.size)(ty:TypeId) :
  (Builtin.copy_ #[152,152] ty #[.slice (some ⟨b,0,none⟩) N M, .slice a m c]).run prog w= .ok (goInt m) (w.setCells b 0 (xs.flatMap AY)):=by
 rcases o.2 with⟨d,x⟩ | ⟨g,cap,h,d,hg,hh,y⟩
 ·have q:m=0:=by
   simp only[Value.slice.injEq] at d;omega
  have u:xs=[]:=List.eq_nil_of_length_eq_zero (by omega);subst u q;exact Zc0 w 152 152 ty 274 2 _ a N M 0 c underlying152 KM (Nat.zero_min _)
 ·obtain⟨rfl,_,rfl⟩:a=some ⟨g,0,none⟩/\m=m/\c=cap:=by simpa using d
  refine Mx w ty b 0 N M m ⟨g,0,none⟩ m c cur xs hw (Nat.min_eq_left l) hm.symm (by rw[Nat.zero_add];exact Zv (Nat.mul_le_mul_right _ l) s) (fun j v p=> ?_)
  have r:j<m * 2:=by
   have:=(List.getElem?_eq_some_iff.1 p).1;rw[Zaq] at this;rw[hm];exact this
  rw[Zce,Nat.zero_add,o.cellAt j r];exact p
theorem VH (l:List AZ)(id:Int):(Zdy l id).length<=l.length:=List.length_filter_le _ _
theorem PO (w:World)(P B n c first N rb:Nat)(a:Option Addr)(ys xs:List AZ)(id:Int)(h:FV w P B a n c first ys xs)(hg:EB w N rb id) :
  Calls prog 229 #[.pointer (some ⟨P,8,none⟩), .func (.func 230) #[] #[.pointer (some ⟨N,0,none⟩)]] w fun e w'=>e= .returned (.tuple #[])/\∃v,FV w' P B a n c 0 v (Zdy xs id)/\RF w w' P (Value.slice a n c).ownBlock 8 11:=by
 have HL:=Zz (Ke w P B n c first a ys xs h);have R:=h.Bs;have ar:xs.length<=n:=by have:=h.ring.Bs;have:=h.len;omega
 have H:=Zz (Zq h hg);have aj:P<w.heap.size:=Zy h.pb h.bs;by_cases h0:n=0
 ·subst h0
  have O:∀u,Below w.heap.size w u->∀a1 c1,u.ownsRow w.heap.size 274 2 (.slice a1 xs.length c1) xs.length (xs.flatMap AY)->Calls prog 273 #[.slice a1 xs.length c1, .func (.func 230) #[] #[.pointer (some ⟨N,0,none⟩)]] u fun e w'=>∃z A,e= .returned (.slice z 0 A)/\Below w.heap.size w w'/\Zdy xs id=[]:=by
   intro u b a1 c1 d;refine (NZ u w.heap.size a1 xs.length c1 N rb id xs d rfl (by omega) (H.o.2.below b H.o.2.bl H.o.2.rl) H.o.2.bl H.o.2.rl b.size).mono ?_;rintro e p ⟨z,m,A,rfl,hm,K,l⟩;have hx:xs=[]:=List.eq_nil_of_length_eq_zero (by omega);subst hx;obtain rfl:m=0:=hm;exact⟨z,A,rfl,b.trans l,rfl⟩
  have F:=Zz O;have HQ:=Zz h.q0;clear h hg O
  go_enter func229,ntmps229
  go_wp2_with (first | (go_at_call 211;refine HL.o.mono ?_;rintro e u ⟨a1,c1,rfl,d,b⟩;have x:=Zz (Zq d b);clear d b) | (go_at_call 273;refine (F.o _ x.o.2 _ _ x.o.1).mono ?_;rintro e p ⟨a2,c2,rfl,l,hl⟩;have y:=Zz (Zq l hl);have q:=Zz (HQ.o.below l);have c0:=q.o.c0;have d1:=q.o.c1;have d2:=q.o.c2;have f1:=q.o.fz 9;have f2:=q.o.fz 10;have C:=fun ty=>UK p ty a c;have I:=fun ty=>Zc0 p 152 152 ty 274 2 a a2 0 c 0 c2 underlying152 KM (Nat.zero_min _);clear l hl))
  go_end0
  have hr:Bq ys 0 ([]:List AZ):=by
   have hy:ys=[]:=List.eq_nil_of_length_eq_zero HQ.o.len;rw[hy];exact .nil
  have k1:=RF.Ae P (Value.slice a 0 c).ownBlock 8 11 y.o.1;exact⟨rfl,ys,by rw[y.o.2];exact ((q.o.KI 0).WS 0).toQ (first:=0) rfl rfl hr (by omega),(k1.trans (RF.Bt _ P 9 _ (.int .i64 0) (lo:=8) (hi:=11) (by decide)) (fun k r=>Zu r)).trans (RF.Bt _ P 10 _ (.int .i64 0) (lo:=8) (hi:=11) (by decide)) (fun k r=>Zu r)⟩
 ·obtain⟨g,cur,rfl,J,Z,Q⟩:∃g cur,a=some ⟨g,0,none⟩/\w.heap[g]? =some (.cells cur 274 (0,0))/\n<=c/\cur.size=c * 2:=by
   rcases h.row.2 with⟨G,_⟩ | ⟨g,cap,cur,G,_,hh,U,h4,h5,_⟩
   ·simp only[Value.slice.injEq] at G;omega
   ·obtain⟨rfl,_,rfl⟩:a=some ⟨g,0,none⟩/\n=n/\c=cap:=by simpa using G
    exact⟨g,cur,rfl,hh,U,h5⟩
  have E:n * 2<=cur.size:=by rw[Q];exact Nat.mul_le_mul_right _ Z
  have O:∀u,Below w.heap.size w u->∀a1 c1,u.ownsRow w.heap.size 274 2 (.slice a1 xs.length c1) xs.length (xs.flatMap AY)->Calls prog 273 #[.slice a1 xs.length c1, .func (.func 230) #[] #[.pointer (some ⟨N,0,none⟩)]] u fun e p=>∃z m A L w4,e= .returned (.slice z m A)/\(∀ty,(Builtin.clear_ #[152] ty #[.slice (some ⟨g,0,none⟩) n c]).run prog p= .ok (.tuple #[]) L)/\(∀ty,(Builtin.copy_ #[152,152] ty #[.slice (some ⟨g,0,none⟩) n c, .slice z m A]).run prog L= .ok (goInt m) w4)/\m=(Zdy xs id).length/\(∃v,Dy w4 P B (some ⟨g,0,none⟩) n c first xs.length v/\Bq v 0 (Zdy xs id))/\RF w w4 P (some g) 8 11/\p.cell? ⟨P,8,none⟩=some (.slice (some ⟨g,0,none⟩) n c)/\L.cell? ⟨P,8,none⟩=some (.slice (some ⟨g,0,none⟩) n c):=by
   intro u b a1 c1 d;refine (NZ u w.heap.size a1 xs.length c1 N rb id xs d rfl (by omega) (H.o.2.below b H.o.2.bl H.o.2.rl) H.o.2.bl H.o.2.rl b.size).mono ?_;rintro e p ⟨z,m,A,rfl,hm,K,l⟩;have Y:g<w.heap.size:=Zaa J;have V:Below w.heap.size w p:=b.trans l;have S:=(V.block g Y).trans J;have T:=H.o.1.q0.below V;have al:=VH xs id;obtain⟨s1,s2⟩:=T.setRow 0 (List.replicate n (⟨0,0⟩:AZ)) (by simp);have C:=fun ty=>Mw p g 0 n c cur S (by rw[Nat.zero_add];exact E) (by omega) ty
   rw[Nat.zero_mul] at s1 s2 C;obtain⟨ag,g3,g4,_⟩:=Zcm g 274 ((List.replicate n (⟨0,0⟩:AZ)).flatMap AY) 0 p cur S (by rw[Zaq,List.length_replicate,Nat.zero_add];exact E);have W:∀k,k≠g->(p.setCells g 0 ((List.replicate n (⟨0,0⟩:AZ)).flatMap AY)).heap[k]? =p.heap[k]? :=fun k r=>Zap g k r _ _ _
   generalize p.setCells g 0 ((List.replicate n (⟨0,0⟩:AZ)).flatMap AY)=L at *
   have ae:L.ownsRow w.heap.size 274 2 (.slice z m A) m ((Zdy xs id).flatMap AY):=by
    refine⟨K.1,?_⟩;rcases K.2 with G | ⟨g2,cap,c2,G,X,hh,U⟩
    ·exact Zu G
    ·exact Zj ⟨g2,cap,c2,G,X,(W g2 (by omega)).trans hh,U⟩
   have I:=fun ty=>UL (M:=c) g3 ae hm (show m<=n by omega) (by rw[g4];exact E) ty
   obtain⟨u1,u2⟩:=s1.setRow 0 (Zdy xs id) (by omega);rw[Nat.zero_mul] at u1 u2;refine⟨z,m,A,L,_,rfl,C,I,hm,⟨_,u1,?_⟩,((RF.Ae P (some g) 8 11 V).trans s2 (fun k r=>Zu r)).trans u2 (fun k r=>Zu r),T.c0,s1.c0⟩;rw[List.take_zero,List.nil_append];exact .MZ _ _
  have F:=Zz O;clear h hg O J Q E
  go_enter func229,ntmps229
  go_wp2_with (first | (go_at_call 211;refine HL.o.mono ?_;rintro e u ⟨a1,c1,rfl,d,b⟩;have x:=Zz (Zq d b);clear d b) | (go_at_call 273;refine (F.o _ x.o.2 _ _ x.o.1).mono ?_;rintro e p ⟨a2,m,c2,L,w4,rfl,C,I,hm,s,D,c0,d0⟩;have y:=Zz (Zq hm (Zq s D));have d1:=s.choose_spec.1.c1;have d2:=s.choose_spec.1.c2;have f1:=s.choose_spec.1.fz 9;have f2:=s.choose_spec.1.fz 10;clear hm s D))
  go_end0
  obtain⟨hm,⟨v,q1,q2⟩,D⟩:=y.o;exact⟨rfl,v,((q1.KI 0).WS m).toQ (first:=0) rfl (by rw[hm]) q2 R,(D.trans (RF.Bt _ P 9 _ (.int .i64 0) (lo:=8) (hi:=11) (by decide)) (fun k r=>Zu r)).trans (RF.Bt _ P 10 _ (.int .i64 m) (lo:=8) (hi:=11) (by decide)) (fun k r=>Zu r)⟩
theorem Ft {α:Type} [BEq α] [LawfulBEq α]:∀(a b:List α),a.Nodup->(∀x∈a,x∈b)->a.length<=b.length
 | [],_,_,_=>Nat.zero_le _
 | x::a,b,h,hs=>by
  have d:=hs x (List.mem_cons_self ..);have m:=Ft a (b.erase x) (List.nodup_cons.1 h).2 (fun y l=>(List.mem_erase_of_ne (fun (e:y=x)=>(List.nodup_cons.1 h).1 (e▸l))).2 (hs y (List.mem_cons_of_mem _ l)));have o:=List.length_erase_of_mem d;have p:0<b.length:=List.length_pos_of_mem d;simp only[List.length_cons];omega
theorem MC {α β:Type}(f:α->List β)(b:Nat)(l:List α)(h:∀x∈l,(f x).length<=b):(l.flatMap f).length<=l.length * b:=by
 induction l with
 | nil=>simp
 | cons a l m =>
  have o:=h a (List.mem_cons_self ..);have p:=m (fun x d=>h x (List.mem_cons_of_mem _ d));rw[List.flatMap_cons,ZX,List.length_cons,Nat.add_mul];omega
theorem Ao.TL (h:Ao e):e.queue.length<=72:=by
 classical
 have d:=Ft e.queue ((List.range e.runs.length).flatMap (fun i=>(List.range (e.at_ i).steps.length).map (fun k=>(⟨(e.at_ i).id,k⟩:AZ)))) h.qn (fun p hp=>by
  obtain⟨i,hi,d,b,_⟩:=(h.qm p).1 hp;rw[List.mem_flatMap];refine⟨i,List.mem_range.2 hi,List.mem_map.2 ⟨p.node,List.mem_range.2 b,?_⟩⟩
  cases p
  simp only[AZ.mk.injEq,and_true];exact d)
 have b:=MC (fun i=>(List.range (e.at_ i).steps.length).map (fun k=>(⟨(e.at_ i).id,k⟩:AZ))) 12 (List.range e.runs.length) (fun i hi=>by
  have:=(h.runs i (List.mem_range.1 hi)).IQ;simp;omega)
 have:=h.WW;rw[List.length_range] at b;omega
theorem Gg (h:((e.at_ i).at_ k).tries<(e.at_ i).fl.bu k):e.AT i k=({ e with timers:=e.timers+1 }:Ab).Af i k (fun s=>{ s with st:=4,fin:=Zak e.time (Zb4 ((e.at_ i).fl.ba k) ((e.at_ i).fl.ca k) ((e.at_ i).fl.ji k) s.tries e.At),BN:=e.timers+1 }):=by
 unfold Ab.AT;simp only;rw[if_pos h]
theorem Gf (hi:i<e.runs.length)(h:¬((e.at_ i).at_ k).tries<(e.at_ i).fl.bu k):e.AT i k=((e.Af i k (fun s=>{ s with st:=6 })).AG i (fun _=>Ag.BO (e.at_ i).steps.length (((e.Af i k (fun s=>{ s with st:=6 }))).at_ i))).settle i:=by
 unfold Ab.AT;simp only;rw[if_neg h];have b:=Zbo (e':=e.Af i k (fun s=>{ s with st:=6 })) (f:=fun s=>{ s with st:=6 }) (k:=k) rfl hi;rw[if_pos rfl] at b;rw[b]
 have heq:e.AG i (fun r=>Ag.BO r.steps.length (r.Af k (fun s=>{ s with st:=6 })))=e.AG i (fun _=>Ag.BO (e.at_ i).steps.length ((e.at_ i).Af k (fun s=>{ s with st:=6 }))):=by
  rw[IU]
 rw[heq]
 congr 1
 unfold Ab.Af;rw[Zep]
def Ag.Sg (r:Ag)(k:Nat):Prop:=∀a,a<r.fl.an k->(r.at_ (r.fl.af k a).toNat).st=5
theorem Zd1 {r:Ag}:r.free k=true↔(r.at_ k).st=1/\r.Sg k:=by
 unfold Ag.free Ag.Sg;simp only[Bool.and_eq_true,beq_iff_eq,List.all_eq_true,List.mem_range]
theorem GX {r:Ag}:r.lost k=true↔(r.at_ k).st=1/\∃a,a<r.fl.an k/\((r.at_ (r.fl.af k a).toNat).st=6\/(r.at_ (r.fl.af k a).toNat).st=7):=by
 unfold Ag.lost;simp only[Bool.and_eq_true,beq_iff_eq,List.any_eq_true,List.mem_range,Bool.or_eq_true]
structure Ci (r:Ag):Prop where
 up:∀k,k<r.steps.length->2<=(r.at_ k).st->(r.at_ k).st<=6->r.Sg k
 shut:r.st=1->∀k,k<r.steps.length->r.lost k=false
structure Cu (r:Ag):Prop where
 half:Ci r
 still:r.st=1->∀k,k<r.steps.length->r.free k=false
def AI (e:Ab):Prop:=∀i,i<e.runs.length->Cu (e.at_ i)
theorem EH {r:Ag}(h:¬k<r.steps.length):r.at_ k=AM.z:=by
 unfold Ag.at_;rw[ZQ,List.getElem?_eq_none (by omega)];rfl
theorem Ci.to {r r2:Ag}(h:Ci r)(hf:r2.fl=r.fl)(hl:r2.steps.length=r.steps.length)
  (hu:∀k,k<r.steps.length->2<=(r2.at_ k).st->(r2.at_ k).st<=6->(2<=(r.at_ k).st/\(r.at_ k).st<=6)\/r2.Sg k)
  (hd:∀m,(r.at_ m).st=5->(r2.at_ m).st=5)
  (hs:r2.st=1->∀k,k<r.steps.length->r2.lost k=false):Ci r2:=by
 refine⟨fun k d p q=> ?_,fun o k d=>hs o k (by omega)⟩;rw[hl] at d;rcases hu k d p q with⟨a,b⟩ | a
 ·intro x l
  rw[hf] at l ⊢;exact hd _ (h.up k d a b x l)
 ·exact a
theorem Kn {r r2:Ag}(hf:r2.fl=r.fl)(h:r.lost k=false)(l:(r2.at_ k).st=1->(r.at_ k).st=1)
  (h6:∀m,(r2.at_ m).st=6\/(r2.at_ m).st=7->(r.at_ m).st=6\/(r.at_ m).st=7):r2.lost k=false:=by
 rw[Bool.eq_false_iff] at h ⊢;intro x;obtain⟨a,b,c,d⟩:=GX.1 x;rw[hf] at c d;exact h (GX.2 ⟨l a,b,c,h6 _ d⟩)
theorem OQ {r r2:Ag}(hf:r2.fl=r.fl)(h:r.free k=false)(d:(r2.at_ k).st=1->(r.at_ k).st=1)
  (h5:∀m,(r2.at_ m).st=5->(r.at_ m).st=5):r2.free k=false:=by
 rw[Bool.eq_false_iff] at h ⊢;intro x;obtain⟨a,b⟩:=Zd1.1 x;refine h (Zd1.2 ⟨d a,fun c l=>h5 _ ?_⟩);have:=b c (by rw[hf];exact l)
 rwa[hf] at this
theorem Cu.calm {r:Ag}(h:Cu r)(s:k<r.steps.length)(a:2<=(r.at_ k).st/\(r.at_ k).st<=4)(b:2<=(f (r.at_ k)).st/\(f (r.at_ k)).st<=4):Cu (r.Af k f):=by
 have l:∀m,(r.Af k f).at_ m=r.at_ m\/(m=k/\(r.Af k f).at_ m=f (r.at_ k)):=fun m=>by
  by_cases c:k=m
  ·subst c;exact Zj ⟨rfl,Zbb _ _ s⟩
  ·exact Zu (Zbh _ _ c)
 have o:∀m,((r.Af k f).at_ m).st=1->(r.at_ m).st=1:=fun m x=>by
  rcases l m with c | ⟨c,d⟩
  ·rwa[c] at x
  ·rw[d] at x;omega
 have p:∀m,((r.Af k f).at_ m).st=5->(r.at_ m).st=5:=fun m x=>by
  rcases l m with c | ⟨c,d⟩
  ·rwa[c] at x
  ·rw[d] at x;omega
 have q:∀m,((r.Af k f).at_ m).st=6\/((r.Af k f).at_ m).st=7->(r.at_ m).st=6\/(r.at_ m).st=7:=fun m x=>by
  rcases l m with c | ⟨c,d⟩
  ·rwa[c] at x
  ·rw[d] at x;omega
 refine⟨h.half.to rfl (Zal _ _ _) (fun m hm x y=> ?_) (fun m x=> ?_) (fun g m hm=>Kn (r:=r) rfl (h.half.shut g m hm) (o m) q),fun g m hm=>OQ (r:=r) rfl (h.still g m (by rwa[Zal] at hm)) (o m) p⟩
 ·rcases l m with c | ⟨c,d⟩
  ·rw[c] at x y;exact Zu ⟨x,y⟩
  ·subst c;exact Zu ⟨a.1,by omega⟩
 ·rcases l m with c | ⟨c,d⟩
  ·rw[c];exact x
  ·subst c;omega
theorem PQ (st ends:Int){r:Ag}(h:¬k<r.steps.length):(Zd2 st ends r).at_ k=r.at_ k:=by
 rw[EH (by rw[Zbe];exact h),EH h]
theorem Ci.ended {r:Ag}(h:Ci r){st ends:Int}(b:st≠1):Cu (Zd2 st ends r):=by
 have d:∀m,m<r.steps.length->((Zd2 st ends r).at_ m).st=(if (r.at_ m).st=5\/(r.at_ m).st=6 then (r.at_ m).st else 7):=fun m hm=>by
  rw[Zb8 _ _ _ hm];unfold DE;split<;>rfl
 refine⟨h.to rfl (Zbe _ _ _) (fun m hm x y=> ?_) (fun m x=> ?_) (fun g=>absurd g b),fun g=>absurd g b⟩
 ·have:=d m hm
  split at this<;>omega
 ·by_cases hm:m<r.steps.length
  ·rw[d m hm,if_pos (Zu x)];exact x
  ·rw[PQ _ _ hm];exact x
theorem Cu.Tw (hi:i<e.runs.length)(h:Cu (e.at_ i)):Cu ((e.settle i).at_ i):=by
 unfold Ab.settle
 cases b:(e.at_ i).outcome with
 | none=>exact h
 | some st =>
  simp only;rw[Zei e i st hi,if_pos rfl];exact h.half.ended (by have:=Zdv b;omega)
theorem QW (e:Ab)(i:Nat):(e.settle i).runs.length=e.runs.length:=by
 unfold Ab.settle
 split
 ·rfl
 ·exact Zd8 e i _
theorem Np (b:j<e.runs.length)(hn:j≠i):(e.settle i).at_ j=e.at_ j:=by
 unfold Ab.settle
 split
 ·rfl
 ·rw[Zei e i _ b,if_neg (fun x=>hn x.symm)]
theorem Xu (h:Ao e)(hi:i<e.runs.length)(b:(e.at_ i).st=1)(m:Nat):((e.Bl i).at_ i).at_ m=if (e.at_ i).free m then { (e.at_ i).at_ m with st:=2 } else (e.at_ i).at_ m:=by
 by_cases hm:m<(e.at_ i).steps.length
 ·exact Hn hi hm
 ·rw[EH (by rw[(h.Bl hi b).2.steps];exact hm),EH hm,if_neg]
  intro x;have:=(Zd1.1 x).1;rw[EH hm] at this;exact absurd this (by decide)
theorem Ci.Bl (h:Ao e)(hi:i<e.runs.length)(q:(e.at_ i).st=1)(hh:Ci (e.at_ i)):Cu ((e.Bl i).at_ i):=by
 have l:=(h.Bl hi q).2;have hw:=Xu h hi q;have o:∀m,(((e.Bl i).at_ i).at_ m).st=if (e.at_ i).free m then 2 else ((e.at_ i).at_ m).st:=fun m=>by rw[hw m];split<;>rfl
 have p:∀m,(((e.Bl i).at_ i).at_ m).st=5↔((e.at_ i).at_ m).st=5:=fun m=>by
  rw[o m]
  split
  ·rename_i g
   have:=(Zd1.1 g).1;omega
  ·rfl
 have r:∀m,(((e.Bl i).at_ i).at_ m).st=1->((e.at_ i).at_ m).st=1/\(e.at_ i).free m=false:=fun m x=>by
  rw[o m] at x
  split at x
  ·omega
  ·rename_i g;exact⟨x,by simpa using g⟩
 have u:∀m,(((e.Bl i).at_ i).at_ m).st=6\/(((e.Bl i).at_ i).at_ m).st=7->((e.at_ i).at_ m).st=6\/((e.at_ i).at_ m).st=7:=fun m x=>by
  rw[o m] at x
  split at x
  ·omega
  ·exact x
 refine⟨hh.to l.fl l.steps (fun m hm x y=> ?_) (fun m=>(p m).2) (fun _ m hm=>Kn l.fl (hh.shut q m hm) (fun x=>(r m x).1) u),fun _ m hm=> ?_⟩
 ·by_cases g:(e.at_ i).free m=true
  ·right
   intro a s;rw[l.fl] at s ⊢;exact (p _).2 ((Zd1.1 g).2 a s)
  ·left
   rw[o m,if_neg g] at x y;exact⟨x,y⟩
 ·rw[l.steps] at hm
  rw[Bool.eq_false_iff];intro x;obtain⟨a,b⟩:=Zd1.1 x;obtain⟨c,d⟩:=r m a;have:(e.at_ i).free m=true:=Zd1.2 ⟨c,fun z v=>(p _).1 (by have:=b z (by rw[l.fl];exact v);rwa[l.fl] at this)⟩;rw[d] at this;cases this
theorem AI.of (h:AI e)(hl:e'.runs.length=e.runs.length)(d:∀j,j<e.runs.length->j≠i->e'.at_ j=e.at_ j)(hi:Cu (e'.at_ i)):AI e':=by
 intro j b;rw[hl] at b;by_cases c:j=i
 ·subst c;exact hi
 ·rw[d j b c];exact h j b
theorem AI.same (h:AI e)(b:e'.runs=e.runs):AI e':=by
 intro j d;have:e'.at_ j=e.at_ j:=by unfold Ab.at_;rw[b]
 rw[this];exact h j (by rwa[b] at d)
theorem AI.calm (h:AI e)(hi:i<e.runs.length)(m:k<(e.at_ i).steps.length)(d:e'.runs=(e.Af i k f).runs)
  (a:2<=((e.at_ i).at_ k).st/\((e.at_ i).at_ k).st<=4) (b:2<=(f ((e.at_ i).at_ k)).st/\(f ((e.at_ i).at_ k)).st<=4):AI e':=by
 refine h.of (i:=i) (Za7 d) (fun j l hn=>by rw[Zbo d l,if_neg (fun x=>hn x.symm)]) ?_;rw[Zbo d hi,if_pos rfl];exact (h i hi).calm m a b
theorem AI.end_ (h:AI e)(hi:i<e.runs.length){st:Int}(b:st≠1):AI (e.end_ i st):=by
 refine h.of (i:=i) (Zd8 e i st) (fun j d hn=>by rw[Zei e i st d,if_neg (fun x=>hn x.symm)]) ?_;rw[Zei e i st hi,if_pos rfl];exact (h i hi).half.ended b
theorem AI.ready (h:AI e)(hi:i<e.runs.length)(b:k<(e.at_ i).steps.length)(d:((e.at_ i).at_ k).st=4):AI (e.ready i k) :=
 h.calm hi b (f:=fun s=>{ s with st:=2 }) rfl (by omega) (by simp)
theorem AI.settled {b:Ab}(h:AI e)(hi:i<b.runs.length)(hl:b.runs.length=e.runs.length)(l:∀j,j<e.runs.length->j≠i->b.at_ j=e.at_ j)(m:Cu (b.at_ i)):AI (b.settle i) :=
 h.of (i:=i) ((QW b i).trans hl) (fun j d hn=>(Np (by rw[hl];exact d) hn).trans (l j d hn)) (Cu.Tw hi m)
theorem Cu.dead {r:Ag}(h:Cu r)(q:k<r.steps.length)(v:(r.at_ k).st=3)(u:r.st=1){r2:Ag}(p:Es (r.Af k (fun s=>{ s with st:=6 })) r2)(o:Shut r2):Cu r2:=by
 have hle:=p.leS;have d:r2.fl=r.fl:=hle.fl;have hlen:r2.steps.length=r.steps.length:=hle.len.trans (Zal _ _ _)
 have l:∀m,r2.at_ m=r.at_ m\/((r.at_ m).st=1/\(r2.at_ m).st=7)\/(m=k/\(r2.at_ m).st=6):=fun m=>by
  by_cases hm:m<r.steps.length
  ·rcases hle.at_ m (by rw[Zal];exact hm) with a | ⟨a,b⟩
   ·by_cases c:k=m
    ·subst c;right;right;refine⟨rfl,?_⟩;rw[a,Zbb _ _ q]
    ·left;rw[a,Zbh _ _ c]
   ·by_cases c:k=m
    ·subst c;rw[Zbb _ _ q] at a;simp at a
    ·rw[Zbh _ _ c] at a b
     right;left;exact⟨a,by rw[b];rfl⟩
  ·left
   rw[EH (by rw[hlen];exact hm),EH hm]
 refine⟨h.half.to d hlen (fun m _ x y=> ?_) (fun m x=> ?_) (fun _ m hm=>o m (by rw[hlen];exact hm)),fun _ m hm=>OQ d (h.still u m (by omega)) (fun x=> ?_) (fun m x=> ?_)⟩
 ·rcases l m with a | ⟨_,a⟩ | ⟨a,_⟩
  ·rw[a] at x y;exact Zu ⟨x,y⟩
  ·omega
  ·subst a;left;omega
 ·rcases l m with a | ⟨a,_⟩ | ⟨a,_⟩
  ·rw[a];exact x
  ·omega
  ·subst a;omega
 ·rcases l m with a | ⟨_,a⟩ | ⟨_,a⟩
  ·rwa[a] at x
  ·omega
  ·omega
 ·rcases l m with a | ⟨_,a⟩ | ⟨_,a⟩
  ·rwa[a] at x
  ·omega
  ·omega
theorem AI.AT (h:AI e)(q:Ak e)(hi:i<e.runs.length)(d:k<(e.at_ i).steps.length)(r:((e.at_ i).at_ k).st=3):AI (e.AT i k):=by
 by_cases b:((e.at_ i).at_ k).tries<(e.at_ i).fl.bu k
 ·rw[Gg b]
  exact h.calm hi d rfl (by omega) (by simp)
 ·rw[Gf hi b]
  have o:=q.wk.Bh hi d (by omega);have m:=Zbo (e':=e.Af i k (fun s=>{ s with st:=6 })) (f:=fun s=>{ s with st:=6 }) (k:=k) rfl hi;rw[if_pos rfl] at m;rw[m];obtain⟨k1,k2⟩:=Zeb ((e.at_ i).Af k (fun s=>{ s with st:=6 }));rw[Zal] at k1 k2;have l:=(h i hi).dead d r o k1 k2
  generalize Ag.BO (e.at_ i).steps.length ((e.at_ i).Af k (fun s=>{ s with st:=6 }))=r2 at *
  have he:(e.Af i k (fun s=>{ s with st:=6 })).AG i (fun _=>r2)=e.AG i (fun _=>r2):=by unfold Ab.Af;rw[Zep]
  rw[he];refine h.settled (by rw[Zbi];exact hi) (Zbi e i _) (fun j p hn=>by rw[Zbr e i j _ p,if_neg (fun x=>hn x.symm)]) ?_;rw[Zbr e i i _ hi,if_pos rfl];exact l
theorem Cu.UQ {r:Ag}(h:Cu r)(d:k<r.steps.length)(l:(r.at_ k).st=3):Ci (r.Af k (fun s=>{ s with st:=5 })):=by
 have b:∀m,(r.Af k (fun s=>{ s with st:=5 })).at_ m=r.at_ m\/(m=k/\((r.Af k (fun s=>{ s with st:=5 })).at_ m).st=5):=fun m=>by
  by_cases c:k=m
  ·subst c;right;exact⟨rfl,by rw[Zbb _ _ d]⟩
  ·left;exact Zbh _ _ c
 refine h.half.to rfl (Zal _ _ _) (fun m _ x y=> ?_) (fun m x=> ?_) (fun g m hm=>Kn (r:=r) rfl (h.half.shut g m hm) (fun x=> ?_) (fun m x=> ?_))
 ·rcases b m with a | ⟨a,_⟩
  ·rw[a] at x y;exact Zu ⟨x,y⟩
  ·subst a;left;omega
 ·rcases b m with a | ⟨_,a⟩
  ·rw[a];exact x
  ·exact a
 ·rcases b m with a | ⟨_,a⟩
  ·rwa[a] at x
  ·omega
 ·rcases b m with a | ⟨_,a⟩
  ·rwa[a] at x
  ·omega
theorem AI.complete (h:AI e)(q:Ak e){tok:Int}(he:e.complete tok=some e'):AI e':=by
 unfold Ab.complete at he
 split at he
 ·cases he
 ·rename_i i k v
  obtain⟨hi,o,u,_⟩:=Dk v
  cases he
  have r:=q.wk.Bh hi o (by omega);have hw:=q.wk.over hi o 5 (by omega) (by omega) (by omega);have b:=FJ.Af e k (fun s=>{ s with st:=5 }) e.queue hi;have b:FJ e (e.Af i k (fun s=>{ s with st:=5 })) i:=b;have m:i<(e.Af i k (fun s=>{ s with st:=5 })).runs.length:=by rw[b.len];exact hi
  have l:((e.Af i k (fun s=>{ s with st:=5 })).at_ i).st=1:=by rw[b.st];exact r
  obtain⟨_,g2⟩:=hw.Bl m l;have d:=b.trans g2;have p:=Zbo (e':=e.Af i k (fun s=>{ s with st:=5 })) (f:=fun s=>{ s with st:=5 }) (k:=k) rfl hi;rw[if_pos rfl] at p;refine h.settled (by rw[d.len];exact hi) d.len d.others (Ci.Bl hw m l ?_);rw[p];exact (h i hi).UQ o u
theorem AI.fail (h:AI e)(d:Ak e){tok:Int}(he:e.fail tok=some e'):AI e':=by
 unfold Ab.fail at he
 split at he
 ·cases he
 ·rename_i i k l
  obtain⟨a,b,c,_⟩:=Dk l
  cases he
  exact h.AT d a b c
theorem Nh (d:Ak e){p:AZ}{h:Int}(he:e.Bk=some (p,t,h,e')) :
  ∃i,e.find p.run=some i/\i<e.runs.length/\(e.at_ i).id=p.run/\p.node<(e.at_ i).steps.length/\((e.at_ i).at_ p.node).st=2/\(e.at_ i).st=1/\t=((e.at_ i).at_ p.node).tries+1/\h=e.Ai+1/\e.queue=p::e'.queue/\e'.Ai=e.Ai+1/\e'.time=e.time/\e'.At=e.At/\e'.ends=e.ends/\e'.Ah=e.Ah /\
   e'.runs=(e.Af i p.node (fun s=>{ s with st:=3,tries:=t,tok:=h,fin:=Zak e.time ((e.at_ i).fl.cl p.node),BN:=e.timers+1,sign:=if (e.at_ i).fl.be p.node > 0 then Zak e.time ((e.at_ i).fl.be p.node) else 0,Bc:=if (e.at_ i).fl.be p.node > 0 then e.timers+2 else s.Bc })).runs:=by
 unfold Ab.Bk at he
 split at he
 ·cases he
 ·rename_i o q l
  split at he
  ·cases he
  ·rename_i i hf
   obtain⟨hi,b⟩:=RB hf;simp only[Option.some.injEq,Prod.mk.injEq] at he;obtain⟨rfl,rfl,rfl,rfl⟩:=he;obtain⟨i2,q1,r,m,u⟩:=(d.wk.qm o).1 (by rw[l];exact List.mem_cons_self ..);have:=d.wk.CA hi q1 (by rw[b,r]);subst this;exact⟨i,hf,hi,b,m,u,d.wk.Bh hi m (by omega),rfl,rfl,l,rfl,rfl,rfl,rfl,rfl,rfl⟩
theorem AI.Bk (h:AI e)(l:Ak e){p:AZ}{m:Int}(he:e.Bk=some (p,t,m,e')):AI e':=by
 obtain⟨i,_,a,_,b,c,_,_,_,_,_,_,_,_,_,d⟩:=Nh l he;exact h.calm a b d (by omega) (by simp)
theorem AI.Ar (h:AI e)(l:Ak e){d:CH}(p:BA e d)(hm:∀x,BA e x->d.tm<=x.tm):AI (e.Ar d):=by
 have s:=l.wk.Cq p;have r:Ak { e with time:=max e.time d.tm }:=l.Fi (by omega) (by have:=l.wk.tB;omega) (fun x q=>by have:=hm x q;have:=(l.wk.Cq q).2;omega);have hu:AI { e with time:=max e.time d.tm }:=h.same rfl;obtain⟨hi,_,b⟩:=p;unfold Ab.Ar
 cases o:d.k with
 | none=>exact hu.end_ hi (by omega)
 | some k =>
  rw[o] at b;simp only at b ⊢
  split
  ·rename_i m
   exact hu.ready hi b.1 m
  ·rename_i m
   refine hu.AT r hi b.1 ?_;have:=b.2;unfold AM.due at this
   split at this
   ·exact this.1
   ·exact this.1.resolve_right m
theorem GM (e:Ab)(d:CH):(e.Ar d).time=max e.time d.tm:=by
 unfold Ab.Ar
 split
 ·rfl
 ·split
  ·rfl
  ·unfold Ab.AT
   simp only
   split
   ·rfl
   ·unfold Ab.settle
    split<;>rfl
theorem CG.Rx {m:Int}{d:Ab}(p:CG m e d)(h:AI e)(l:Ak e)(r:e.time<=m):AI d:=by
 induction p with
 | none e _=>exact h.same rfl
 | step e d b o hle _ q =>
  obtain⟨d1,d2⟩:=Zd5 o;exact q (h.Ar l d1 d2) (l.Ar d1 d2) (by rw[GM];omega)
theorem BU.Rx {b:Ab}(l:BU e t b)(h:AI e)(d:Ak e)(m:0<=t):AI b :=
 CG.Rx l h d (Nz d.wk m).1
theorem Qe (e:Ab)(f:Ad):Ci (e.fresh f):=by
 have b:∀m,((e.fresh f).at_ m).st<=1:=fun m=>by
  by_cases hm:m<(e.fresh f).steps.length
  ·rw[Zb7] at hm;rw[Zdh e f hm];decide
  ·rw[EH hm];decide
 refine⟨fun k _ x _=>by have:=b k;omega,fun _ k _=> ?_⟩;rw[Bool.eq_false_iff];intro x;obtain⟨_,a,_,d⟩:=GX.1 x;have:=b ((e.fresh f).fl.af k a).toNat;omega
theorem AI.begin (h:AI e)(o:Ak e)(l:e.runs.length<6){f:Ad}(hf:BQ f):AI (e.begin f):=by
 have hw:=o.wk.more l hf;have hi:e.runs.length<(e.more f).runs.length:=by rw[Za5];omega
 have d:((e.more f).at_ e.runs.length).st=1:=by rw[Zbj];rfl
 obtain⟨_,g2⟩:=hw.Bl hi d;rw[Dz];intro j m;rw[g2.len,Za5] at m;by_cases b:j=e.runs.length
 ·subst b
  exact Ci.Bl hw hi d (by rw[Zbj];exact Qe e f)
 ·rw[g2.others j (by rw[Za5];omega) b,Zb1 e f (by omega)]
  exact h j (by omega)
theorem AI.cut (h:AI e){o:Nat}(b:o<e.runs.length):AI (e.cut o):=by
 intro j d;have:=Zet e b;rw[Gd e b];exact h _ (by split<;>omega)
theorem AI.AN (h:AI e)(b:Ak e){f:Ad}(hf:BQ f)(he:e.AN f=some e'):AI e':=by
 have m:=b.wk.WW;unfold Ab.AN at he
 split at he
 ·split at he
  ·cases he
  ·rename_i o hold
   cases he
   obtain⟨o1,o2,_⟩:=DO hold
   have d:(e.at_ o).st≠1:=fun x=>by
    have:=(b.wk.runs o o1).goes.1 x;unfold Ab.at_ at this;omega
   have l:=Zet e o1;exact AI.begin (h.cut o1) (b.cut o1 d) (by omega) hf
 ·cases he
  exact h.begin b (by omega) hf
theorem SC:AI Za1:=fun i hi=>by simp[Za1] at hi
end Go.Proofs.YtgdcjccbdmcebaaGreatDoor
