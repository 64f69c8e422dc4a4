import Derived.Test.YtgdcjccbdmcebaaGreatDoorM25
import Derived.Test.YtgdcjccbdmcebaaGreatDoorM32
set_option linter.unusedSimpArgs false
set_option linter.unusedVariables false
set_option maxHeartbeats 4000000
set_option maxRecDepth 100000
open Go.Proofs.Tryz
namespace Go.Proofs.YtgdcjccbdmcebaaGreatDoor
open Go.RowKit
attribute [local go_sem ↓] Go.wp_at_zero Go.wp_at_succ
variable {w w':World}{pv:Value}{bd bn bm:Nat}{D:DataW Unit}{f:BG}{o:Jp}
theorem Ax.refl (w:World)(g:Nat):Ax w w g:=⟨rfl,rfl,rfl,Zx _,fun _ _ _=>rfl⟩
theorem Ax.set {g:Nat}(h:Ax w w' g)(o:Nat)(v:Value):Ax w (w'.setCell ⟨g,o,none⟩ v) g :=
 ⟨h.os,h.tape,h.output,by simpa[World.setCell] using h.size,fun k b a=>(Zl _ _ _ _ a).trans (h.block k b a)⟩
theorem FE.one {B g k fx o:Nat}{rs:List Aq}{first:Int}(h:FE w B g k fx rs o first)(hf:Ax w w' g){j:Nat}(d:j<rs.length):Calls prog 268 #[.pointer (some ⟨(Am rs j).b,0,none⟩), .pointer (some ⟨fx,0,none⟩)] w' fun e m=>e= .returned (.bool (decide (j=o)))/\∃q,m=w'.drewN q:=by
 obtain⟨gc,c⟩:∃gc,w.heap[g]? =some (.cells gc 266 (0,0)):=by
  obtain⟨i,cur,e,_,_,_,_,hh⟩:=Zdt h.row (by omega);obtain rfl:g=i:=by simpa using e
  exact⟨cur,hh⟩
 have q1:w'.cell? ⟨(Am rs j).b,0,none⟩=some (.int .u64 (Am rs j).id):=by
  obtain⟨cs,fr,e,n⟩:=h.top j d;exact (World.cell?_of_block (a:=⟨(Am rs j).b,0,none⟩) (hf.block _ (Zaa e) (Zai e c (by decide)))).trans (h.ids d)
 have l:w'.cell? ⟨fx,0,none⟩=some (.int .u64 first):=(World.cell?_of_block (a:=⟨fx,0,none⟩) (hf.block _ (Zaa h.fx) (Zai h.fx c (by decide)))).trans h.fxc;refine (On w' (Am rs j).b fx (Am rs j).id first q1 l).mono ?_;rintro x w' ⟨rfl,q⟩;refine⟨?_,q⟩;by_cases e:j=o
 ·subst e;rw[decide_eq_true h.is,decide_eq_true rfl]
 ·rw[decide_eq_false (h.no j d e),decide_eq_false e]
theorem Yj (w:World)(B g d m:Nat)(l:List Aq)(h:By w B 266 1 Lm (some ⟨g,0,none⟩) d l)(hm:l.length=m+1)(c:Nat)(ty:TypeId) :
  (Builtin.clear_ #[149] ty #[.slice (some ⟨g,m,none⟩) 1 c]).run prog w= .ok (.tuple #[]) (w.setCell ⟨g,m,none⟩ (.pointer none)):=by
 have:=Fg (P:=prog) w 149 266 ty (.pointer none) underlying149 (fun w=>by kernel_rfl) 1 [.pointer none] rfl (by simp[Value.oneCell']) g m c (by omega) (fun j b=>by
  have a:j=0:=by simpa using b
  subst a;have:=DS (z:=Aq.z) h Dj (i:=m) (j:=0) (by omega) (by omega);rw[Nat.mul_one,Nat.add_zero] at this;rw[Nat.add_zero,this]
  rfl) (fun j _=>Gr h _)
 exact this
theorem Wv {B g c m:Nat}{e:TypeId}{k:Nat}{α:Type}{f:α->List Value}(hf:∀x,(f x).length=k){l:List α}(h:By w B e k f (some ⟨g,0,none⟩) c l)(hm:m<=l.length):By w B e k f (some ⟨g,0,none⟩) c (l.take m):=by
 rcases h.2 with⟨a,_⟩ | ⟨b,cap,cur,a,hg,hh,n,d,i,j⟩
 ·cases a
 ·obtain⟨rfl,rfl⟩:g=b/\c=cap:=by simpa using a
  have hl:(l.take m).length=m:=by rw[List.length_take];omega
  unfold By;rw[hl];refine⟨by rw[Ok hf,hl],Zj ⟨g,c,cur,rfl,hg,hh,by omega,d,i,?_⟩⟩;rw[<-LD hf,<-j,List.take_take,Nat.min_eq_left (Nat.mul_le_mul_right _ hm)]
theorem UN (w:World)(B g a fx:Nat)(rs:List Aq)(o:Nat)(first:Int)(h:FE w B g a fx rs o first) :
  Calls prog 267 #[.slice (some ⟨g,0,none⟩) rs.length a, .func (.func 268) #[] #[.pointer (some ⟨fx,0,none⟩)]] w fun e w'=>e= .returned (.slice (some ⟨g,0,none⟩) (CI rs o).length a)/\By w' B 266 1 Lm (some ⟨g,0,none⟩) a (CI rs o)/\Ax w w' g:=by
 have I:=Zz (Vq w B g a fx rs o first h);have H:=Zz h;have y:=h.ol;have v:=h.Bs;obtain⟨n,hn⟩:∃n,n=rs.length:=⟨_,rfl⟩;have t:=Zeu y;have q:(CI rs o).length=n - 1:=by omega
 rw[<-hn] at y v I ⊢;have Y:n<=a:=by obtain⟨_,_,_,_,_,K,_,_⟩:=Zdt h.row (by omega);omega
 rw[q];have p:=Zz (Zq hn q);have A:((o:Int) == -1)=false:=by simp
 have N:decide ((o:Int)= -1)=false:=decide_eq_false (by omega);clear h hn t q
 go_enter func267,ntmps267
 go_wp2_with (go_at_call 284;refine I.o.mono ?_;rintro e w1 ⟨rfl,q1,rfl⟩)
 go_loopw [5,6,7] (fun iv F _ wr=>∃i j:Nat,iv= .int .i64 i/\F= .int .i64 j/\i+1=j/\o<j/\j<=n/\XP w wr B g a fx rs o first j) (fun _ F _ _=>n - (intOf F).toNat)
 case atStart =>
  refine⟨o,o+1,rfl,rfl,rfl,by omega,by omega,?_,?_⟩
  ·rw[NM];exact Zam H.o.row (below_drewN w q1)
  ·exact⟨rfl,rfl,rfl,Zx _,fun _ _ _=>rfl⟩
 case round =>
  obtain⟨i,j,rfl,rfl,W,Z,X,c⟩:=hrel;have S:(CU rs o j).length=n:=by have:=p.o.1;have:=Ht (l:=rs) (o:=o) (j:=j) (by omega) (by omega) (by omega);omega
  by_cases hj:j<n
  ·have r:j<rs.length:=by have:=p.o.1;omega
   have t0:wr.cell? ⟨g,j,none⟩=some (.pointer (some ⟨(Am rs j).b,0,none⟩)):=by
    have t0:=DS (z:=Aq.z) c.row Dj (i:=j) (j:=0) (by omega) (by omega);rw[Nat.mul_one,Nat.add_zero,Uu (z:=Aq.z) (by have:=p.o.1;omega) (by omega) r] at t0;exact t0
   obtain⟨u,hu⟩:∃u,wr.cell? ⟨g,i,none⟩=some u:=by
    have t1:=DS (z:=Aq.z) c.row Dj (i:=i) (j:=0) (by omega) (by omega);rw[Nat.mul_one,Nat.add_zero] at t1;exact⟨_,t1⟩
   have f1:=Gr c.row i;have G:=Zz (H.o.one c.f r);have L:decide (j=o)=false:=decide_eq_false (by omega);rw[L] at G;have i1:(j:Int)<(n:Int):=by omega
   have i2:(i:Int)<(n:Int):=by omega
   have k:=Zz c;clear L c;go_wp2_with (go_at_call 268;refine G.o.mono ?_;rintro _ w3 ⟨rfl,M,rfl⟩)
   go_roundw
   case rel =>
    refine⟨i+1,j+1,by go_num,by go_num,by omega,by omega,by omega,?_,?_⟩
    ·have T:=k.o.below M rfl
     have:=KB (z:=Aq.z) T.row Dj (i:=i) (by omega) (Am rs j);rw[Nat.mul_one] at this;have A:=PE (z:=Aq.z) (l:=rs) (o:=o) (j:=j) (by have:=p.o.1;omega) (by omega) r;rw[show j - 1=i by omega] at A;rw[show (rs.getD j .z)=Am rs j from rfl] at A;rw[A] at this;exact this
    ·exact (k.o.below M rfl).f.set i _
   case measure=>simp[intOf];omega
  ·have x:j=n:=by omega
   subst x;have t:=fun ty=>Yj wr B g a i (CU rs o j) c.row (by omega) (a - i) ty
   have E:=KB (z:=Aq.z) c.row Dj (i:=i) (by omega) Aq.z;have k:=Zz c
   have d:By (wr.setCell ⟨g,i,none⟩ (.pointer none)) B 266 1 Lm (some ⟨g,0,none⟩) a (CI rs o)/\Ax w (wr.setCell ⟨g,i,none⟩ (.pointer none)) g:=by
    refine⟨?_,c.f.set i _⟩;have C:=Wv Dj (m:=i) c.row (by omega);have hl:=PD (l:=rs) (o:=o) (by have:=p.o.1;omega);rw[<-p.o.1,show j - 1=i by omega] at hl;rw[hl] at C;have hc:=p.o.2;rcases C.2 with⟨s,_⟩ | ⟨O,cap,cur,s,hg,hh,P,Q,K,R⟩
    ·cases s
    ·obtain⟨rfl,rfl⟩:g=O/\a=cap:=by simp only[Value.slice.injEq,Option.some.injEq,Addr.mk.injEq] at s;exact⟨s.1.1,s.2.2⟩
     refine⟨C.1,Zj ⟨g,a,cur.setIfInBounds i (.pointer none),rfl,hg,Zab hh _,P,Q,by simpa using K,?_⟩⟩;rw[Array.toList_setIfInBounds,List.take_set_of_le (by omega)];exact R
   have J:=Zz d;have i1:¬(j:Int)<(j:Int):=by omega
   have U:¬a=i:=by omega
   have V:j - i=1:=by omega
   clear c E d
   generalize wr.setCell ⟨g,i,none⟩ (.pointer none)=w5 at *
   go_wp2_with fail
   go_ret
   exact⟨by rw[show j - 1=i by omega];rfl,J.o.1,J.o.2⟩
theorem Zd9 (l:List Int):(Zbm l).size=l.length:=by
 have:∀(l:List Int) (b:ByteArray),(l.foldl (fun r n=>r.push (UInt8.ofNat n.toNat)) b).size=b.size+l.length:=by
  intro l
  induction l with
  | nil=>intro b;rfl
  | cons a l c=>intro b;rw[List.foldl_cons,c,ByteArray.size_push,List.length_cons];omega
 have h:=this l ByteArray.empty;unfold Zbm;rw[h];simp
theorem push_append (a b:ByteArray)(x:UInt8):(a++b).push x=a++b.push x:=by
 apply ByteArray.ext
 simp
theorem Nu (a b:List Int):Zbm (a++b)=Zbm a++Zbm b:=by
 unfold Zbm;rw[List.foldl_append]
 have:∀(l:List Int) (x y:ByteArray),l.foldl (fun r n=>r.push (UInt8.ofNat n.toNat)) (x++y)=x++l.foldl (fun r n=>r.push (UInt8.ofNat n.toNat)) y:=by
  intro l
  induction l with
  | nil=>intro x y;rfl
  | cons c l d=>intro x y;rw[List.foldl_cons,List.foldl_cons,push_append,d]
 have h:=this b (a.foldl (fun r n=>r.push (UInt8.ofNat n.toNat)) ByteArray.empty) ByteArray.empty;rw[ByteArray.append_empty] at h;exact h
def IV (o:Jp):List Value:=[.int .i64 o.kind, .string (Da o.at_), .string (Zbm o.data)]
theorem Ze (o:Jp):(IV o).length=3:=rfl
def opV (o:Jp):Value:= .agg #[.int .i64 o.kind, .string (Da o.at_), .string (Zbm o.data)]
structure CF (w:World)(D bd bn:Nat)(pv:Value)(left full:Int)(down:Bool):Prop where
 Au:w.heap[D]? =some (.cells #[.map (some bd), .map (some bn),pv, .int .i64 left, .int .i64 full, .bool down] 92 (0,0))
theorem CF.cells {D:Nat}{left full:Int}{down:Bool}(h:CF w D bd bn pv left full down):((((w.cell? ⟨D,0,none⟩=some (.map (some bd))/\w.cell? ⟨D,1,none⟩=some (.map (some bn)))/\w.cell? ⟨D,2,none⟩=some pv)/\w.cell? ⟨D,3,none⟩=some (.int .i64 left))/\w.cell? ⟨D,4,none⟩=some (.int .i64 full))/\w.cell? ⟨D,5,none⟩=some (.bool down):=by
 refine⟨⟨⟨⟨⟨?_,?_⟩,?_⟩,?_⟩,?_⟩,?_⟩<;>(unfold World.cell?;rw[h.Au];rfl)
theorem CF.AE {D:Nat}{left full:Int}{down:Bool}(h:CF w D bd bn pv left full down)(o:Nat):w.frozen? ⟨D,o,none⟩=false:=by simp[World.frozen?,h.Au]
theorem CF.at_ {D:Nat}{left full:Int}{down:Bool}(h:CF w D bd bn pv left full down)(e:w'.heap[D]? =w.heap[D]?):CF w' D bd bn pv left full down:=⟨e.trans h.Au⟩
theorem CF.Bt {D:Nat}{left full:Int}{down:Bool}(h:CF w D bd bn pv left full down)(v:Value):CF (w.setCell ⟨D,2,none⟩ v) D bd bn v left full down:=⟨by rw[Zab h.Au];rfl⟩
theorem CF.WT {D:Nat}{left full:Int}{down:Bool}(h:CF w D bd bn pv left full down)(v:Int):CF (w.setCell ⟨D,3,none⟩ (.int .i64 v)) D bd bn pv v full down:=⟨by rw[Zab h.Au];rfl⟩
theorem CF.KI {D:Nat}{left full:Int}{down:Bool}(h:CF w D bd bn pv left full down)(v:Int):CF (w.setCell ⟨D,4,none⟩ (.int .i64 v)) D bd bn pv left v down:=⟨by rw[Zab h.Au];rfl⟩
theorem CF.WR {D:Nat}{left full:Int}{down:Bool}(h:CF w D bd bn pv left full down)(v:Bool):CF (w.setCell ⟨D,5,none⟩ (.bool v)) D bd bn pv left full v:=⟨by rw[Zab h.Au];rfl⟩
theorem KV (w:World)(D bd bn:Nat)(pv:Value)(d:Ay)(h:CF w D bd bn pv d.left d.full d.down) :
  Calls prog 325 #[.pointer (some ⟨D,0,none⟩)] w fun x w'=>x= .returned (AH d.Bx)/\CF w' D bd bn pv d.wrote.left d.wrote.full d.wrote.down/\Ax w w' D:=by
 obtain⟨⟨⟨⟨⟨_,_⟩,_⟩,t3⟩,t4⟩,t5⟩:=h.cells;have f3:=h.AE 3;have f4:=h.AE 4;have f5:=h.AE 5;have H:=Zz h;clear h;obtain⟨CJ,now,Ap,left,full,down⟩:=d;simp only at t3 t4 t5;by_cases a:down=true\/left=0
 ·have i:(Ay.Bx ⟨CJ,now,Ap,left,full,down⟩)=11:=if_pos a
  have j:(Ay.wrote ⟨CJ,now,Ap,left,full,down⟩)=⟨CJ,now,Ap,left,full,true⟩:=if_pos a;rw[i,j];have c:=Zz (Zq (H.o.WR true) ((Ax.refl w D).set 5 (.bool true)));clear i j;have n:=Zz a
  cases m:down with
  | true =>
   subst m;clear a
   go_enter func325,ntmps325
   go_wp2_with fail
   go_ret
   exact⟨by rw[Zan (by decide)];rfl,c.o.1,c.o.2⟩
  | false =>
   subst m;have e:left=0:=by rcases n.o with x | x;cases x;exact x
   subst e;clear a
   go_enter func325,ntmps325
   go_wp2_with fail
   go_ret
   exact⟨by rw[Zan (by decide)];rfl,c.o.1,c.o.2⟩
 ·have m:down=false:=by cases down;rfl;exact absurd (Zu rfl) a
  have e:¬left=0:=fun x=>a (Zj x);subst m;have s:(left == 0)=false:=by simpa using e
  have p:decide (left=0)=false:=decide_eq_false e;obtain⟨g,b⟩:∃g,g=wI (left - 1):=⟨_,rfl⟩;have u:IntKind.i64.wrap (left - 1)=g:=by rw[IntKind.wrap_i64,b];rfl
  by_cases l:full=0
  ·subst l
   have i:(Ay.Bx ⟨CJ,now,Ap,left,0,false⟩)=10:=by unfold Ay.Bx;rw[if_neg a];rfl
   have j:(Ay.wrote ⟨CJ,now,Ap,left,0,false⟩)=⟨CJ,now,Ap,g,-1,false⟩:=by unfold Ay.wrote;rw[if_neg a,b];rfl
   rw[i,j];have c:=Zz (Zq ((H.o.WT g).KI (-1)) (((Ax.refl w D).set 3 (.int .i64 g)).set 4 (.int .i64 (-1))));clear i j a b
   go_enter func325,ntmps325
   go_wp2_with fail
   go_ret
   exact⟨by rw[Zan (by decide)];rfl,c.o.1,c.o.2⟩
  ·obtain⟨ff,k⟩:∃ff,ff=wI (full - 1):=⟨_,rfl⟩
   have r:IntKind.i64.wrap (full - 1)=ff:=by rw[IntKind.wrap_i64,k];rfl
   have i:(Ay.Bx ⟨CJ,now,Ap,left,full,false⟩)=0:=by unfold Ay.Bx;rw[if_neg a];exact if_neg l
   have j:(Ay.wrote ⟨CJ,now,Ap,left,full,false⟩)=⟨CJ,now,Ap,g,ff,false⟩:=by unfold Ay.wrote;rw[if_neg a,b,k];exact if_neg l
   rw[i,j];have c:=Zz (Zq ((H.o.WT g).KI ff) (((Ax.refl w D).set 3 (.int .i64 g)).set 4 (.int .i64 ff)));have t:(full == 0)=false:=by simpa using l
   have q:decide (full=0)=false:=decide_eq_false l;clear i j a b k
   go_enter func325,ntmps325
   go_wp2_with fail
   go_ret
   exact⟨by rw[Zaw];rfl,c.o.1,c.o.2⟩
theorem AB.below (h:AB w bm f D)(a:Below w.heap.size w w'):AB w' bm f D :=
 h.Aj (a.block _ (by obtain⟨es,c,e,_⟩:=h.own;exact Zaa e)) (fun k cs fr e=>a.block k (Zaa e))
theorem AB.lt (h:AB w bm f D):bm<w.heap.size:=by obtain⟨es,c,e,_⟩:=h.own;exact Zaa e
theorem UP (a:o.kind=2)(j:Nat):Ez f o j=if j=o.at_ then some ((f o.at_).getD []++o.data) else f j:=by
 unfold Ez;by_cases e:j=o.at_
 ·rw[if_pos e,if_pos e,if_neg (by omega),if_pos a,e]
 ·rw[if_neg e,if_neg e]
theorem doF_wr (a:o.kind=1)(j:Nat):Ez f o j=if j=o.at_ then some o.data else f j:=by
 unfold Ez;by_cases e:j=o.at_
 ·rw[if_pos e,if_pos e,if_neg (by omega),if_neg (by omega)]
 ·rw[if_neg e,if_neg e]
theorem doF_rm (a:o.kind=3)(j:Nat):Ez f o j=if j=o.at_ then none else f j:=by
 unfold Ez;by_cases e:j=o.at_
 ·rw[if_pos e,if_pos e,if_pos a]
 ·rw[if_neg e,if_neg e]
theorem Ej {wx:World}(a:Below w.heap.size w wx)(hg:wx.grownBy w' (some bm)):Ax w w' bm :=
 ⟨hg.os.trans a.os,hg.tape.trans a.tape,hg.output.trans a.output,Zv a.size hg.size,fun k c b=>(hg.block k (Zy c a.size) (fun e=>b (by simpa using e))).trans (a.block k c)⟩
theorem AB.drop (h:AB w bm f D){i:Nat}(hi:i<3){g:BG}(hg:∀j,g j=if j=i then none else f j)(ty:TypeId) :
  ∃w' y,(Builtin.delete_ #[89,9] ty #[.map (some bm), .string (Da i)]).run prog w= .ok (.tuple #[]) w'/\AB w' bm g y/\w.grownBy w' (some bm):=by
 obtain⟨w',v,q,n⟩:=World.ownsMap.drop h.own CK underlying89 (GQ i) ty;have p:=n.grown;have r:=h.own.tidy CK
 have s:∀(k:Nat) (cs:Array Value) (fr:Nat×Nat),w.heap[k]? =some (Obj.cells cs 9 fr)->w'.heap[k]? =w.heap[k]? :=fun k cs fr e=>p.block k (Zaa e) (fun a=>by
  obtain⟨es,clock,z,_⟩:=h.own;simp only[Option.some.injEq] at a;subst a;rw[z] at e;cases e)
 have u:Maps.size (D.del (.string (ND i)))=Hy g:=by
  have:=Maps.size_del (k:= .string (ND i)) r;rw[h.YC hi,h.size] at this;rw[Yl hi hg]
  cases e:(f i).isSome with
  | true=>rw[e] at this;simp at this ⊢;omega
  | false=>rw[e] at this;simpa using this
 refine⟨w',_,v,⟨q,u,fun key=> ?_,fun j t d e=> ?_⟩,p⟩
 ·by_cases e:key=ND i
  ·subst e
   rw[Maps.has_del_same];simp only[Bool.false_eq_true,false_iff,not_exists,not_and];intro j d a;have:=Jv hi d a;subst this;rw[hg,if_pos rfl];decide
  ·rw[Maps.has_del_other (fun a=>e (by injection a)),h.has]
   constructor
   ·rintro⟨j,d,l,m⟩
    exact⟨j,d,l,by rw[hg,if_neg (fun x=>e (by rw[l,x]))];exact m⟩
   ·rintro⟨j,d,l,m⟩
    rw[hg,if_neg (fun x=>e (by rw[l,x]))] at m;exact⟨j,d,l,m⟩
 ·rw[hg] at e
  by_cases c:j=i
  ·subst c
   rw[if_pos rfl] at e
   cases e
  ·rw[if_neg c] at e
   obtain⟨b,l,m⟩:=h.at_ j t d e;exact⟨b,by rw[Maps.atKey_del_other (fun a=>c (Jv d hi (by injection a)))];exact l,(s b _ _ m).trans m⟩
theorem PL (w:World)(bm:Nat)(f:BG)(X:DataW Unit)(o:Jp)(h:AB w bm f X)(J:o.at_<3)(U:o.kind=1\/o.kind=2\/o.kind=3)(K:∀s,f o.at_=some s->s.length+o.data.length<=9223372036854775807) :
  Calls prog 106 #[.map (some bm),opV o] w fun x w'=>x= .returned (.tuple #[])/\(∃V,AB w' bm (Ez f o) V)/\Ax w w' bm:=by
 obtain⟨kind,at_,data⟩:=o;simp only at J U K;obtain⟨sd,k⟩:∃sd,sd=Zbm data:=⟨_,rfl⟩;obtain⟨nm,d⟩:∃nm,nm=Da at_:=⟨_,rfl⟩;obtain⟨ob,t⟩:∃ob,ob=w.heap.size:=⟨_,rfl⟩;obtain⟨l,u⟩:∃l,l=(w.alloc (.cells #[.int .i64 kind, .string nm, .string sd] 210)).alloc (.cells #[.string sd] 9):=⟨_,rfl⟩;obtain⟨sb,C⟩:∃sb,sb=ob+1:=⟨_,rfl⟩;have m:Below w.heap.size w l:=by rw[u];exact ((Zk _ _).alloc (Zx _) _).alloc (by simp) _
 have e:l.heap[sb]? =some (.cells #[.string sd] 9 (0,0)):=by rw[u,C,t];exact Zbk _ _ _ _ (by simp)
 have z:l.heap[ob]? =some (.cells #[.int .i64 kind, .string nm, .string sd] 210 (0,0)):=by
  rw[u,Zao _ _ _ (by rw[t];simp),t];exact heap_alloc_new w _
 have u0:l.cell? ⟨ob,0,none⟩=some (.int .i64 kind):=by unfold World.cell?;rw[z];rfl
 have u1:l.cell? ⟨ob,1,none⟩=some (.string nm):=by unfold World.cell?;rw[z];rfl
 have u2:l.cell? ⟨ob,2,none⟩=some (.string sd):=by unfold World.cell?;rw[z];rfl
 have s0:l.cell? ⟨sb,0,none⟩=some (.string sd):=by unfold World.cell?;rw[e];rfl
 have sf:l.frozen? ⟨sb,0,none⟩=false:=by simp[World.frozen?,e]
 have F:=h.below m;have Z:=h.lt;have y:=Zz (Zq u (Zq t (Zq C (Zq m (Zq e (Zq F (Zq k d)))))));unfold opV;simp only;rw[<-k,<-d];rcases U with rfl | rfl | rfl
 ·obtain⟨G,L,A,n,r⟩:=F.store (i:=at_) J (nb:=sb) (s:=data) (by unfold Zde;rw[<-k];exact e) (g:=Ez f ⟨1,at_,data⟩) (fun j=>doF_wr rfl j)
  rw[<-d] at A;have B:=Zz (Zq n r);clear h F m e u C k d z n r K t
  go_enter func106,ntmps106
  go_upto_region 2 with fail
  rw[<-y.o.1,<-y.o.2.1,<-y.o.2.2.1];go_wp2_with fail
  go_end0
  exact⟨rfl,⟨L,B.o.1⟩,Ej y.o.2.2.2.1 B.o.2⟩
 ·obtain⟨v,c,T⟩:=F.look (i:=at_) J
  rw[<-d] at c
  cases hf:f at_ with
  | none =>
   rw[hf] at c;simp only[Option.isSome_none] at c;obtain⟨G,L,A,n,r⟩:=F.store (i:=at_) J (nb:=sb) (s:=data) (by unfold Zde;rw[<-k];exact e) (g:=Ez f ⟨2,at_,data⟩) (fun j=>by rw[UP rfl j,hf];rfl);rw[<-d] at A;have B:=Zz (Zq n r);clear h F m e u C k d z n r K t T hf
   go_enter func106,ntmps106
   go_upto_region 2 with fail
   rw[<-y.o.1,<-y.o.2.1,<-y.o.2.2.1];go_wp2_with fail
   go_end0
   exact⟨rfl,⟨L,B.o.1⟩,Ej y.o.2.2.2.1 B.o.2⟩
  | some s =>
   rw[hf] at c;simp only[Option.isSome_some] at c;obtain⟨b,rfl,H⟩:=T s hf;have hle:=K s hf;obtain⟨G,E⟩:∃G,G=(l.setCell ⟨sb,0,none⟩ (.string (Zbm s++sd))).drew:=⟨_,rfl⟩;have Q:ob≠sb:=by omega
   have Y:=m.size;have I:Below w.heap.size w G:=by rw[E];exact (m.setCell (p:=⟨sb,0,none⟩) (by show w.heap.size<=sb;omega) _).drew
   have P:G.heap[sb]? =some (.cells #[.string (Zbm s++sd)] 9 (0,0)):=by
    rw[E];have:=Zab (w:=l) (o:=0) e (.string (Zbm s++sd));exact this
   have v1:G.cell? ⟨ob,1,none⟩=some (.string nm):=by
    have:G.heap[ob]? =l.heap[ob]? :=by rw[E];exact Zl l ⟨sb,0,none⟩ _ ob Q
    exact (World.cell?_of_block (a:=⟨ob,1,none⟩) this).trans u1
   obtain⟨w4,W,A,N,O⟩:=(h.below I).store (i:=at_) J (nb:=sb) (s:=s++data) (by unfold Zde;rw[Nu,<-k];exact P) (g:=Ez f ⟨2,at_,data⟩) (fun j=>by rw[UP rfl j,hf];rfl);rw[<-d] at A;have B:=Zz (Zq N (Zq O (Zq I E)));have t0:l.cell? ⟨b,0,none⟩=some (.string (Zbm s)):=by unfold World.cell?;rw[H];rfl
   obtain⟨q,S⟩:∃q,q=Zbm s:=⟨_,rfl⟩;have M:(Op.stringOp .add q sd).run prog l.drew= .ok (.string (q++sd)) l.drew:=run_string_add_sum _ _ _ (by rw[S,k,Zd9,Zd9];exact hle);have R:(binOp .add 9 (.string q) (.string sd)).run prog l.drew= .ok (.string (q++sd)) l.drew:=by rw[binOp_string_add];exact M
   rw[<-S] at t0 B;clear h F m e u C k d z N O K t T hf E P H S I hle
   go_enter func106,ntmps106
   go_upto_region 2 with fail
   rw[<-y.o.1,<-y.o.2.1,<-y.o.2.2.1]
   go_upto_region 6 with fail
   go_region
   all_goals
    rw[<-B.o.2.2.2];go_wp2_with fail
    go_end0
    exact⟨rfl,⟨W,B.o.1⟩,Ej B.o.2.2.1 B.o.2.1⟩
 ·obtain⟨G,L,A,n,r⟩:=F.drop (i:=at_) J (g:=Ez f ⟨3,at_,data⟩) (fun j=>doF_rm rfl j) 0
  rw[<-d] at A;have B:=Zz (Zq n r);clear h F m e u C k d z n r K t
  go_enter func106,ntmps106
  go_upto_region 2 with fail
  rw[<-y.o.1,<-y.o.2.1,<-y.o.2.2.1];go_wp2_with fail
  go_end0
  exact⟨rfl,⟨L,B.o.1⟩,Ej y.o.2.2.2.1 B.o.2⟩
structure Av (w:World)(R D bd bn:Nat)(d:Ay):Prop where
 rs:R<=w.heap.size
 c:∃pa pc,CF w D bd bn (.slice pa d.Ap.length pc) d.left d.full d.down/\w.ownsRow R 210 3 (.slice pa d.Ap.length pc) d.Ap.length (d.Ap.flatMap IV)
 fd:∃Dd,AB w bd d.CJ Dd
 fn:∃Dn,AB w bn d.now Dn
 ne:bd≠bn
 Bs:d.Ap.length<=8
 ops:∀o∈d.Ap,o.at_<3/\(o.kind=1\/o.kind=2\/o.kind=3)
structure DF (w w':World)(R D bd bn:Nat):Prop where
 os:w'.os=w.os
 tape:w'.tape=w.tape
 output:w'.output=w.output
 size:w.heap.size<=w'.heap.size
 block:∀k,k<w.heap.size->k≠D->k≠bd->k≠bn->(k<R\/∀cs fr,w.heap[k]? ≠some (.cells cs 210 fr))->w'.heap[k]? =w.heap[k]?
theorem DF.Ae (R D bd bn:Nat)(h:Below w.heap.size w w'):DF w w' R D bd bn:=⟨h.os,h.tape,h.output,h.size,fun k a _ _ _ _=>h.block k a⟩
theorem DF.trans {x y z:World}{R D:Nat}(h:DF x y R D bd bn)(g:DF y z R D bd bn):DF x z R D bd bn :=
 ⟨g.os.trans h.os,g.tape.trans h.tape,g.output.trans h.output,Zv h.size g.size,fun k i b c d a=>by
  have e:=h.block k i b c d a;exact (g.block k (Zy i h.size) b c d (a.imp id (fun a cs fr=>by rw[e];exact a cs fr))).trans e⟩
theorem DF.CM {k R D:Nat}(h:Ax w w' k)(b:k=D\/k=bd\/k=bn):DF w w' R D bd bn :=
 ⟨h.os,h.tape,h.output,h.size,fun j a c d e _=>h.block j a (by rcases b with rfl | rfl | rfl<;>assumption)⟩
theorem Av.below {R D:Nat}{d:Ay}(h:Av w R D bd bn d)(a:Below w.heap.size w w'):Av w' R D bd bn d:=by
 obtain⟨l,m,b,i⟩:=h.c;obtain⟨e,j⟩:=h.fd;obtain⟨g,k⟩:=h.fn;exact⟨Zv h.rs a.size,⟨l,m,b.at_ (a.block _ (Zaa b.Au)),Zam i a⟩,⟨e,j.below a⟩,⟨g,k.below a⟩,h.ne,h.Bs,h.ops⟩
theorem Av.Aj {R D:Nat}{d:Ay}(h:Av w R D bd bn d)(b:w.heap.size<=w'.heap.size)(p:w'.heap[D]? =w.heap[D]?)(m:w'.heap[bd]? =w.heap[bd]?)(n:w'.heap[bn]? =w.heap[bn]?)(a:∀(k:Nat) (cs:Array Value) (t:TypeId) (fr:Nat×Nat),w.heap[k]? =some (Obj.cells cs t fr)->(t=9\/t=210)->w'.heap[k]? =w.heap[k]?):Av w' R D bd bn d:=by
 obtain⟨q,s,q1,i⟩:=h.c;obtain⟨j,u⟩:=h.fd;obtain⟨l,v⟩:=h.fn;refine⟨Zv h.rs b,⟨q,s,q1.at_ p,i.1,?_⟩,⟨j,u.Aj m (fun k cs fr e=>a k cs _ fr e (Zu rfl))⟩,⟨l,v.Aj n (fun k cs fr e=>a k cs _ fr e (Zu rfl))⟩,h.ne,h.Bs,h.ops⟩;rcases i.2 with x | ⟨g,cap,cur,x,hg,hh,r⟩
 ·exact Zu x
 ·exact Zj ⟨g,cap,cur,x,hg,(a g _ _ _ hh (Zj rfl)).trans hh,r⟩
theorem infoOp:(prog.info? 210).map (fun i=>(i.zero,i.size,i.bytes))=some (some (.agg #[.int .i64 0, .string ⟨#[]⟩, .string ⟨#[]⟩]),3,40):=by kernel_rfl
end Go.Proofs.YtgdcjccbdmcebaaGreatDoor
