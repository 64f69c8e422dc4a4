import Derived.Test.YtgdcjccbdmcebaaGreatDoorM14
import Derived.Test.YtgdcjccbdmcebaaGreatDoorM19
set_option linter.all false
set_option maxHeartbeats 4000000
set_option maxRecDepth 100000
open Go.Proofs.Tryz
open ByteArray renaming append_empty->QIz,ext->QJa,size_push->QJb,empty->QJc
open Go.World renaming frozen?->QHj,cell?_of_block->QEc,cell?->QEk
open List renaming drop_of_length_le->QCv,getElem?_take_of_lt->QBb,getElem?_append_left->QBg,take_take->QGf,foldl_cons->QDe,length_drop->QAx,take_append_of_le_length->QHb,getElem?_drop->QAk,take_of_length_le->QCw,getElem?_append_right->QBe,length_take->QBf
open Nat renaming min_self->QJd,mul_one->QHg,add_zero->QBl
open UInt8 renaming ofNat->QJe
namespace Go.Proofs.YtgdcjccbdmcebaaGreatDoor
open Go.RowKit
attribute [local go_sem ↓] Go.wp_at_zero Go.wp_at_succ
variable {w w':World}{rs:List Aq}{pv:Value}{o bd bn j g bm kc fx B:Nat}{D:DataW Unit}{f:BI}
theorem Od (w:World)(rb fx:Nat)(id first:Int)(a:w.cell? ⟨rb,0,none⟩=some (.int .u64 id))(b:w.cell? ⟨fx,0,none⟩=some (.int .u64 first)) :
  Calls prog 268 #[.pointer (some ⟨rb,0,none⟩),.pointer (some ⟨fx,0,none⟩)] w fun e w'=>e=.returned (.bool (decide (id=first)))/\∃q,w'=w.drewN q:=by
 go_enter func268,ntmps268
 go_upto_region 1 with fail
 go_quiet (fail)
 go_wp2_with fail
 go_ret
 exact⟨by first | rfl | (congr 2;by_cases e:id=first<;>simp[e]),_,rfl⟩
def CG {α:Type}(l:List α)(o:Nat):List α:=l.take o++l.drop (o+1)
theorem Zes {α:Type}{l:List α}(h:o<l.length):(CG l o).length+1=l.length:=by
 unfold CG;rw[ZX,QBf,QAx];omega
def CT {α:Type}(l:List α)(o j:Nat):List α:=(CG l o).take (j - 1)++l.drop (j - 1)
theorem Hu {α:Type}{l:List α}(h:o<l.length)(a:1<=j)(b:j<=l.length):(CT l o j).length=l.length:=by
 have:=Zes h;unfold CT;rw[ZX,QBf,QAx];omega
theorem ND {α:Type}{l:List α}:CT l o (o+1)=l:=by
 unfold CT CG;rw[Nat.add_sub_cancel];by_cases h:o<=l.length
 .rw[QHb (by rw[QBf];omega),QGf,QJd,List.take_append_drop]
 .rw[QCw (by rw[ZX,QBf,QAx];omega),QCv (by omega),QCw (by omega),QCv (by omega)]
  simp
theorem Un {α:Type}{z:α}{l:List α}(h:o<l.length)(a:1<=j)(b:j<l.length):(CT l o j).getD j z=l.getD j z:=by
 have:=Zes h;unfold CT;rw[ZQ,ZQ,QBe (by rw[QBf];omega),QAk,QBf]
 congr 2
 omega
theorem Pu {α:Type}{z:α}{l:List α}(h:o<l.length)(i:o+1<=j)(c:j<l.length):(CT l o j).set (j - 1) (l.getD j z)=CT l o (j+1):=by
 have k:=Zes h;have hl:=Hu h (j:=j) (by omega) (by omega);have d:=Hu h (j:=j+1) (by omega) (by omega)
 apply List.ext_getElem?
 intro m;rw[List.getElem?_set]
 have key:∀m,(CG l o)[m]? =if m<o then l[m]? else l[m+1]? :=fun m=>by
  unfold CG;by_cases e:m<o
  .rw[if_pos e,QBg (by rw[QBf];omega),QBb e]
  .rw[if_neg e,QBe (by rw[QBf];omega),QAk,QBf]
   congr 1;omega
 have at_:∀a,1<=a->a<=l.length->(CT l o a)[m]? =if m<a - 1 then (CG l o)[m]? else l[m]? :=fun a q1 n=>by
  unfold CT;by_cases e:m<a - 1
  .rw[if_pos e,QBg (by rw[QBf];omega),QBb e]
  .rw[if_neg e,QBe (by rw[QBf];omega),QAk,QBf]
   congr 1;omega
 rw[at_ j (by omega) (by omega),at_ (j+1) (by omega) (by omega)];by_cases e:j - 1=m
 .rw[if_pos e,if_pos (by omega),if_pos (by omega),key,if_neg (by omega),ZQ,show m+1=j by omega,ZZ c]
  rfl
 .rw[if_neg e]
  by_cases b:m<j - 1
  .rw[if_pos b,if_pos (by omega)]
  .rw[if_neg b,if_neg (by omega)]
theorem Pt {α:Type}{l:List α}(h:o<l.length):(CT l o l.length).take (l.length - 1)=CG l o:=by
 have:=Zes h;unfold CT;rw[QHb (by rw[QBf];omega),QGf,QJd,QCw (by omega)]
structure FA (w:World)(B:Nat)(g kc fx:Nat)(rs:List Aq)(o:Nat)(first:Int):Prop where
 row:BA w B 266 1 Ln (some ⟨g,0,none⟩) kc rs
 top:∀j,j<rs.length->∃cs fr,w.heap[(Am rs j).b]? =some (.cells cs 272 fr)/\cs[0]? =some (.int .u64 (Am rs j).id)
 fx:w.heap[fx]? =some (.cells #[.int .u64 first] 27 (0,0))
 ol:o<rs.length
 is:(Am rs o).id=first
 no:∀j,j<rs.length->j≠o->(Am rs j).id≠first
 Br:rs.length<=6
theorem FA.below {first:Int}(h:FA w B g kc fx rs o first)(hb:ZY w w'):FA w' B g kc fx rs o first :=
 ⟨Zak h.row hb,fun j b=>by obtain⟨cs,fr,e,a⟩:=h.top j b;exact⟨cs,fr,(hb.block _ (Zaa e)).trans e,a⟩,(hb.block _ (Zaa h.fx)).trans h.fx,h.ol,h.is,h.no,h.Br⟩
theorem FA.ids {first:Int}(h:FA w B g kc fx rs o first)(c:j<rs.length):w.cell? ⟨(Am rs j).b,0,none⟩=some (.int .u64 (Am rs j).id):=by
 obtain⟨cs,fr,e,a⟩:=h.top j c;unfold QEk;rw[e];exact a
theorem FA.ptr {first:Int}(h:FA w B g kc fx rs o first)(a:j<rs.length):w.cell? ⟨g,j,none⟩=some (.pointer (some ⟨(Am rs j).b,0,none⟩)):=by
 have:=DQ (z:=Aq.z) h.row Dg (i:=j) (j:=0) a (by omega);rw[QHg,QBl] at this;exact this
theorem FA.fxc {first:Int}(h:FA w B g kc fx rs o first):w.cell? ⟨fx,0,none⟩=some (.int .u64 first):=by
 unfold QEk;rw[h.fx]
 rfl
theorem FA.call {first:Int}(h:FA w B g kc fx rs o first)(a:j<rs.length):Calls prog 268 #[.pointer (some ⟨(Am rs j).b,0,none⟩),.pointer (some ⟨fx,0,none⟩)] w fun e w'=>e=.returned (.bool (decide (j=o)))/\∃q,w'=w.drewN q:=by
 refine (Od w (Am rs j).b fx (Am rs j).id first (h.ids a) h.fxc).mono ?_;rintro x w' ⟨rfl,q⟩;refine⟨?_,q⟩;by_cases e:j=o
 .subst e;rw[decide_eq_true h.is,decide_eq_true rfl]
 .rw[decide_eq_false (h.no j a e),decide_eq_false e]
theorem Vj (w:World)(B g kc fx:Nat)(rs:List Aq)(o:Nat)(first:Int)(h:FA w B g kc fx rs o first) :
  Calls prog 284 #[.slice (some ⟨g,0,none⟩) rs.length kc,.func (.func 268) #[] #[.pointer (some ⟨fx,0,none⟩)]] w fun e w'=>e=.returned (.int .i64 o)/\∃q,w'=w.drewN q:=by
 have H:=Zz h;obtain⟨n,hn⟩:∃n,n=rs.length:=⟨_,rfl⟩;have m:=h.ol;have b:=h.Br;rw[<-hn] at m b ⊢;have t:n<=kc:=by obtain⟨_,_,_,_,_,v,_,_⟩:=Zdx h.row (by omega);omega
 have s:=Zz hn;clear h hn
 go_enter func284,ntmps284
 go_wp2_with fail
 go_loopw [8] (fun p wr=>∃i:Nat,p=.int .i64 i/\i<=o/\∃q,wr=w.drewN q) (fun p _=>o - (intOf p).toNat)
 case atStart=>exact⟨0,rfl,by omega,0,rfl⟩
 case round =>
  obtain⟨i,rfl,hi,q,rfl⟩:=hrel;have l:=H.o.below (below_drewN w q);have c:i<rs.length:=by have:=s.o;omega
  have t0:=l.ptr c;have d:=Zz (l.call c);have i1:(i:Int)<(n:Int):=by omega
  clear l;by_cases e:i=o
  .have a:decide (i=o)=true:=decide_eq_true e
   rw[a] at d;have k:=Zz e;clear e a;go_wp2_with (go_at_call 268;refine d.o.mono ?_;rintro _ u ⟨rfl,r,rfl⟩)
   go_ret
   exact⟨by rw[<-k.o];rfl,q+r,rfl⟩
  .have a:decide (i=o)=false:=decide_eq_false e
   rw[a] at d;have k:=Zz e;clear e a;go_wp2_with (go_at_call 268;refine d.o.mono ?_;rintro _ u ⟨rfl,r,rfl⟩)
   go_roundw
   case rel=>exact⟨i+1,by go_num,by have:=k.o;omega,q+r,rfl⟩
   case measure=>have:=k.o;simp[intOf];omega
structure XB (w wr:World)(B g kc fx:Nat)(rs:List Aq)(o:Nat)(first:Int)(j:Nat):Prop where
 row:BA wr B 266 1 Ln (some ⟨g,0,none⟩) kc (CT rs o j)
 f:AA w wr g
theorem XB.below {wr:World}{first:Int}(h:XB w wr B g kc fx rs o first j)(q:Nat)(e:w'=wr.drewN q):XB w w' B g kc fx rs o first j:=by
 subst e;exact⟨Zak h.row (below_drewN wr q),⟨h.f.os,h.f.tape,h.f.output,h.f.size,h.f.block⟩⟩
theorem AA.refl (w:World)(g:Nat):AA w w g:=⟨rfl,rfl,rfl,Zx _,fun _ _ _=>rfl⟩
theorem AA.set (h:AA w w' g)(o:Nat)(v:Value):AA w (w'.setCell ⟨g,o,none⟩ v) g :=
 ⟨h.os,h.tape,h.output,by simpa[World.setCell] using h.size,fun k b a=>(Zl _ _ _ _ a).trans (h.block k b a)⟩
theorem FA.one {first:Int}(h:FA w B g kc fx rs o first)(hf:AA w w' g)(d:j<rs.length):Calls prog 268 #[.pointer (some ⟨(Am rs j).b,0,none⟩),.pointer (some ⟨fx,0,none⟩)] w' fun e l=>e=.returned (.bool (decide (j=o)))/\∃q,l=w'.drewN q:=by
 obtain⟨gc,c⟩:∃gc,w.heap[g]? =some (.cells gc 266 (0,0)):=by
  obtain⟨i,cur,e,_,_,_,_,hh⟩:=Zdx h.row (by omega);obtain rfl:g=i:=by simpa using e
  exact⟨cur,hh⟩
 have q1:w'.cell? ⟨(Am rs j).b,0,none⟩=some (.int .u64 (Am rs j).id):=by
  obtain⟨cs,fr,e,m⟩:=h.top j d;exact (QEc (a:=⟨(Am rs j).b,0,none⟩) (hf.block _ (Zaa e) (Zah e c (by decide)))).trans (h.ids d)
 have k:w'.cell? ⟨fx,0,none⟩=some (.int .u64 first):=(QEc (a:=⟨fx,0,none⟩) (hf.block _ (Zaa h.fx) (Zah h.fx c (by decide)))).trans h.fxc;refine (Od w' (Am rs j).b fx (Am rs j).id first q1 k).mono ?_;rintro x w' ⟨rfl,q⟩;refine⟨?_,q⟩;by_cases e:j=o
 .subst e;rw[decide_eq_true h.is,decide_eq_true rfl]
 .rw[decide_eq_false (h.no j d e),decide_eq_false e]
theorem XZ (w:World)(B g kc m:Nat)(l:List Aq)(h:BA w B 266 1 Ln (some ⟨g,0,none⟩) kc l)(hm:l.length=m+1)(c:Nat)(ty:TypeId) :
  (Builtin.clear_ #[149] ty #[.slice (some ⟨g,m,none⟩) 1 c]).run prog w=.ok (.tuple #[]) (w.setCell ⟨g,m,none⟩ (.pointer none)):=by
 have:=Fg (P:=prog) w 149 266 ty (.pointer none) underlying149 (fun w=>by kernel_rfl) 1 [.pointer none] rfl (by simp[Value.oneCell']) g m c (by omega) (fun j b=>by
  have a:j=0:=by simpa using b
  subst a;have:=DQ (z:=Aq.z) h Dg (i:=m) (j:=0) (by omega) (by omega);rw[QHg,QBl] at this;rw[QBl,this]
  rfl) (fun j _=>Gq h _)
 exact this
theorem Wo {c m:Nat}{e:TypeId}{k:Nat}{α:Type}{f:α->List Value}(hf:∀x,(f x).length=k){l:List α}(h:BA w B e k f (some ⟨g,0,none⟩) c l)(hm:m<=l.length):BA w B e k f (some ⟨g,0,none⟩) c (l.take m):=by
 rcases h.2 with⟨a,_⟩ | ⟨b,cap,cur,a,hg,hh,p,d,i,n⟩
 .cases a
 .obtain⟨rfl,rfl⟩:g=b/\c=cap:=by simpa using a
  have hl:(l.take m).length=m:=by rw[QBf];omega
  unfold BA;rw[hl];refine⟨by rw[Oa hf,hl],Zj ⟨g,c,cur,rfl,hg,hh,by omega,d,i,?_⟩⟩;rw[<-LC hf,<-n,QGf,Nat.min_eq_left (Nat.mul_le_mul_right _ hm)]
theorem UG (w:World)(B g kc fx:Nat)(rs:List Aq)(o:Nat)(first:Int)(h:FA w B g kc fx rs o first) :
  Calls prog 267 #[.slice (some ⟨g,0,none⟩) rs.length kc,.func (.func 268) #[] #[.pointer (some ⟨fx,0,none⟩)]] w fun e w'=>e=.returned (.slice (some ⟨g,0,none⟩) (CG rs o).length kc)/\BA w' B 266 1 Ln (some ⟨g,0,none⟩) kc (CG rs o)/\AA w w' g:=by
 have G:=Zz (Vj w B g kc fx rs o first h);have H:=Zz h;have x:=h.ol;have t:=h.Br;obtain⟨n,hn⟩:∃n,n=rs.length:=⟨_,rfl⟩;have s:=Zes x;have p:(CG rs o).length=n - 1:=by omega
 rw[<-hn] at x t G ⊢;have W:n<=kc:=by obtain⟨_,_,_,_,_,J,_,_⟩:=Zdx h.row (by omega);omega
 rw[p];have k:=Zz (Zq hn p);have y:((o:Int) == -1)=false:=by simp
 have M:decide ((o:Int)= -1)=false:=decide_eq_false (by omega);clear h hn s p
 go_enter func267,ntmps267
 go_wp2_with (go_at_call 284;refine G.o.mono ?_;rintro e w1 ⟨rfl,q1,rfl⟩)
 go_loopw [5,6,7] (fun Y E _ wr=>∃i j:Nat,Y=.int .i64 i/\E=.int .i64 j/\i+1=j/\o<j/\j<=n/\XB w wr B g kc fx rs o first j) (fun _ E _ _=>n - (intOf E).toNat)
 case atStart =>
  refine⟨o,o+1,rfl,rfl,rfl,by omega,by omega,?_,?_⟩
  .rw[ND];exact Zak H.o.row (below_drewN w q1)
  .exact⟨rfl,rfl,rfl,Zx _,fun _ _ _=>rfl⟩
 case round =>
  obtain⟨i,j,rfl,rfl,U,X,V,a⟩:=hrel;have R:(CT rs o j).length=n:=by have:=k.o.1;have:=Hu (l:=rs) (o:=o) (j:=j) (by omega) (by omega) (by omega);omega
  by_cases hj:j<n
  .have q:j<rs.length:=by have:=k.o.1;omega
   have t0:wr.cell? ⟨g,j,none⟩=some (.pointer (some ⟨(Am rs j).b,0,none⟩)):=by
    have t0:=DQ (z:=Aq.z) a.row Dg (i:=j) (j:=0) (by omega) (by omega);rw[QHg,QBl,Un (z:=Aq.z) (by have:=k.o.1;omega) (by omega) q] at t0;exact t0
   obtain⟨u,hu⟩:∃u,wr.cell? ⟨g,i,none⟩=some u:=by
    have t1:=DQ (z:=Aq.z) a.row Dg (i:=i) (j:=0) (by omega) (by omega);rw[QHg,QBl] at t1;exact⟨_,t1⟩
   have f1:=Gq a.row i;have F:=Zz (H.o.one a.f q);have K:decide (j=o)=false:=decide_eq_false (by omega);rw[K] at F;have i1:(j:Int)<(n:Int):=by omega
   have i2:(i:Int)<(n:Int):=by omega
   have d:=Zz a;clear K a;go_wp2_with (go_at_call 268;refine F.o.mono ?_;rintro _ w3 ⟨rfl,L,rfl⟩)
   go_roundw
   case rel =>
    refine⟨i+1,j+1,by go_num,by go_num,by omega,by omega,by omega,?_,?_⟩
    .have hb:=d.o.below L rfl
     have:=KA (z:=Aq.z) hb.row Dg (i:=i) (by omega) (Am rs j);rw[QHg] at this;have y:=Pu (z:=Aq.z) (l:=rs) (o:=o) (j:=j) (by have:=k.o.1;omega) (by omega) q;rw[show j - 1=i by omega] at y;rw[show (rs.getD j .z)=Am rs j from rfl] at y;rw[y] at this;exact this
    .exact (d.o.below L rfl).f.set i _
   case measure=>simp[intOf];omega
  .have v:j=n:=by omega
   subst v;have s:=fun ty=>XZ wr B g kc i (CT rs o j) a.row (by omega) (kc - i) ty
   have C:=KA (z:=Aq.z) a.row Dg (i:=i) (by omega) Aq.z;have d:=Zz a
   have c:BA (wr.setCell ⟨g,i,none⟩ (.pointer none)) B 266 1 Ln (some ⟨g,0,none⟩) kc (CG rs o)/\AA w (wr.setCell ⟨g,i,none⟩ (.pointer none)) g:=by
    refine⟨?_,a.f.set i _⟩;have A:=Wo Dg (m:=i) a.row (by omega);have hl:=Pt (l:=rs) (o:=o) (by have:=k.o.1;omega);rw[<-k.o.1,show j - 1=i by omega] at hl;rw[hl] at A;have Z:=k.o.2;rcases A.2 with⟨r,_⟩ | ⟨N,cap,cur,r,hg,hh,O,P,J,Q⟩
    .cases r
    .obtain⟨rfl,rfl⟩:g=N/\kc=cap:=by simp only[Value.slice.injEq,Option.some.injEq,Addr.mk.injEq] at r;exact⟨r.1.1,r.2.2⟩
     refine⟨A.1,Zj ⟨g,kc,cur.setIfInBounds i (.pointer none),rfl,hg,Zab hh _,O,P,by simpa using J,?_⟩⟩;rw[Array.toList_setIfInBounds,List.take_set_of_le (by omega)];exact Q
   have I:=Zz c;have i1:¬(j:Int)<(j:Int):=by omega
   have S:¬kc=i:=by omega
   have T:j - i=1:=by omega
   clear a C c
   generalize wr.setCell ⟨g,i,none⟩ (.pointer none)=w5 at *
   go_wp2_with fail
   go_ret
   exact⟨by rw[show j - 1=i by omega];rfl,I.o.1,I.o.2⟩
theorem Zeb (l:List Int):(Zbn l).size=l.length:=by
 have:∀(l:List Int) (b:ByteArray),(l.foldl (fun r n=>r.push (QJe n.toNat)) b).size=b.size+l.length:=by
  intro l
  induction l with
  | nil=>intro b;rfl
  | cons a l c=>intro b;rw[QDe,c,QJb,List.length_cons];omega
 have h:=this l QJc;unfold Zbn;rw[h];simp
theorem push_append (a b:ByteArray)(x:UInt8):(a++b).push x=a++b.push x:=by
 apply QJa
 simp
theorem Nt (a b:List Int):Zbn (a++b)=Zbn a++Zbn b:=by
 unfold Zbn;rw[List.foldl_append]
 have:∀(l:List Int) (x y:ByteArray),l.foldl (fun r n=>r.push (QJe n.toNat)) (x++y)=x++l.foldl (fun r n=>r.push (QJe n.toNat)) y:=by
  intro l
  induction l with
  | nil=>intro x y;rfl
  | cons c l d=>intro x y;rw[QDe,QDe,push_append,d]
 have h:=this b (a.foldl (fun r n=>r.push (QJe n.toNat)) QJc) QJc;rw[QIz] at h;exact h
def IW (o:Jr):List Value:=[.int .i64 o.kind,.string (CX o.at_),.string (Zbn o.data)]
theorem YR (o:Jr):(IW o).length=3:=rfl
def opV (o:Jr):Value:=.agg #[.int .i64 o.kind,.string (CX o.at_),.string (Zbn o.data)]
structure CF (w:World)(D bd bn:Nat)(pv:Value)(left full:Int)(down:Bool):Prop where
 Au:w.heap[D]? =some (.cells #[.map (some bd),.map (some bn),pv,.int .i64 left,.int .i64 full,.bool down] 92 (0,0))
theorem CF.cells {D:Nat}{left full:Int}{down:Bool}(h:CF w D bd bn pv left full down):((((w.cell? ⟨D,0,none⟩=some (.map (some bd))/\w.cell? ⟨D,1,none⟩=some (.map (some bn)))/\w.cell? ⟨D,2,none⟩=some pv)/\w.cell? ⟨D,3,none⟩=some (.int .i64 left))/\w.cell? ⟨D,4,none⟩=some (.int .i64 full))/\w.cell? ⟨D,5,none⟩=some (.bool down):=by
 refine⟨⟨⟨⟨⟨?_,?_⟩,?_⟩,?_⟩,?_⟩,?_⟩<;>(unfold QEk;rw[h.Au];rfl)
theorem CF.AD {D:Nat}{left full:Int}{down:Bool}(h:CF w D bd bn pv left full down)(o:Nat):w.frozen? ⟨D,o,none⟩=false:=by simp[QHj,h.Au]
theorem CF.at_ {D:Nat}{left full:Int}{down:Bool}(h:CF w D bd bn pv left full down)(e:w'.heap[D]? =w.heap[D]?):CF w' D bd bn pv left full down:=⟨e.trans h.Au⟩
theorem CF.Bv {D:Nat}{left full:Int}{down:Bool}(h:CF w D bd bn pv left full down)(v:Value):CF (w.setCell ⟨D,2,none⟩ v) D bd bn v left full down:=⟨by rw[Zab h.Au];rfl⟩
theorem CF.WI {D:Nat}{left full:Int}{down:Bool}(h:CF w D bd bn pv left full down)(v:Int):CF (w.setCell ⟨D,3,none⟩ (.int .i64 v)) D bd bn pv v full down:=⟨by rw[Zab h.Au];rfl⟩
theorem CF.KH {D:Nat}{left full:Int}{down:Bool}(h:CF w D bd bn pv left full down)(v:Int):CF (w.setCell ⟨D,4,none⟩ (.int .i64 v)) D bd bn pv left v down:=⟨by rw[Zab h.Au];rfl⟩
theorem CF.WG {D:Nat}{left full:Int}{down:Bool}(h:CF w D bd bn pv left full down)(v:Bool):CF (w.setCell ⟨D,5,none⟩ (.bool v)) D bd bn pv left full v:=⟨by rw[Zab h.Au];rfl⟩
theorem KV (w:World)(D bd bn:Nat)(pv:Value)(d:Ax)(h:CF w D bd bn pv d.left d.full d.down) :
  Calls prog 325 #[.pointer (some ⟨D,0,none⟩)] w fun x w'=>x=.returned (AK d.Bz)/\CF w' D bd bn pv d.wrote.left d.wrote.full d.wrote.down/\AA w w' D:=by
 obtain⟨⟨⟨⟨⟨_,_⟩,_⟩,t3⟩,t4⟩,t5⟩:=h.cells;have f3:=h.AD 3;have f4:=h.AD 4;have f5:=h.AD 5;have H:=Zz h;clear h;obtain⟨CH,now,Ap,left,full,down⟩:=d;simp only at t3 t4 t5;by_cases a:down=true\/left=0
 .have k:(Ax.Bz ⟨CH,now,Ap,left,full,down⟩)=11:=if_pos a
  have l:(Ax.wrote ⟨CH,now,Ap,left,full,down⟩)=⟨CH,now,Ap,left,full,true⟩:=if_pos a;rw[k,l];have c:=Zz (Zq (H.o.WG true) ((AA.refl w D).set 5 (.bool true)));clear k l;have q:=Zz a
  cases p:down with
  | true =>
   subst p;clear a
   go_enter func325,ntmps325
   go_wp2_with fail
   go_ret
   exact⟨by rw[Zan (by decide)];rfl,c.o.1,c.o.2⟩
  | false =>
   subst p;have e:left=0:=by rcases q.o with x | x;cases x;exact x
   subst e;clear a
   go_enter func325,ntmps325
   go_wp2_with fail
   go_ret
   exact⟨by rw[Zan (by decide)];rfl,c.o.1,c.o.2⟩
 .have p:down=false:=by cases down;rfl;exact absurd (Zu rfl) a
  have e:¬left=0:=fun x=>a (Zj x);subst p;have u:(left == 0)=false:=by simpa using e
  have r:decide (left=0)=false:=decide_eq_false e;obtain⟨i,b⟩:∃i,i=wI (left - 1):=⟨_,rfl⟩;have y:IntKind.i64.wrap (left - 1)=i:=by rw[IntKind.wrap_i64,b];rfl
  by_cases n:full=0
  .subst n
   have k:(Ax.Bz ⟨CH,now,Ap,left,0,false⟩)=10:=by unfold Ax.Bz;rw[if_neg a];rfl
   have l:(Ax.wrote ⟨CH,now,Ap,left,0,false⟩)=⟨CH,now,Ap,i,-1,false⟩:=by unfold Ax.wrote;rw[if_neg a,b];rfl
   rw[k,l];have c:=Zz (Zq ((H.o.WI i).KH (-1)) (((AA.refl w D).set 3 (.int .i64 i)).set 4 (.int .i64 (-1))));clear k l a b
   go_enter func325,ntmps325
   go_wp2_with fail
   go_ret
   exact⟨by rw[Zan (by decide)];rfl,c.o.1,c.o.2⟩
  .obtain⟨ff,m⟩:∃ff,ff=wI (full - 1):=⟨_,rfl⟩
   have t:IntKind.i64.wrap (full - 1)=ff:=by rw[IntKind.wrap_i64,m];rfl
   have k:(Ax.Bz ⟨CH,now,Ap,left,full,false⟩)=0:=by unfold Ax.Bz;rw[if_neg a];exact if_neg n
   have l:(Ax.wrote ⟨CH,now,Ap,left,full,false⟩)=⟨CH,now,Ap,i,ff,false⟩:=by unfold Ax.wrote;rw[if_neg a,b,m];exact if_neg n
   rw[k,l];have c:=Zz (Zq ((H.o.WI i).KH ff) (((AA.refl w D).set 3 (.int .i64 i)).set 4 (.int .i64 ff)));have v:(full == 0)=false:=by simpa using n
   have s:decide (full=0)=false:=decide_eq_false n;clear k l a b m
   go_enter func325,ntmps325
   go_wp2_with fail
   go_ret
   exact⟨by rw[Zaw];rfl,c.o.1,c.o.2⟩
theorem AE.below (h:AE w bm f D)(hb:ZY w w'):AE w' bm f D :=
 h.Ak (hb.block _ (by obtain⟨es,c,e,_⟩:=h.own;exact Zaa e)) (fun k cs fr e=>hb.block k (Zaa e))
theorem AE.lt (h:AE w bm f D):bm<w.heap.size:=by obtain⟨es,c,e,_⟩:=h.own;exact Zaa e
theorem UI {o:Jr}(hk:o.kind=2)(j:Nat):EB f o j=if j=o.at_ then some ((f o.at_).getD []++o.data) else f j:=by
 unfold EB;by_cases e:j=o.at_
 .rw[if_pos e,if_pos e,if_neg (by omega),if_pos hk,e]
 .rw[if_neg e,if_neg e]
theorem doF_wr {o:Jr}(hk:o.kind=1)(j:Nat):EB f o j=if j=o.at_ then some o.data else f j:=by
 unfold EB;by_cases e:j=o.at_
 .rw[if_pos e,if_pos e,if_neg (by omega),if_neg (by omega)]
 .rw[if_neg e,if_neg e]
theorem doF_rm {o:Jr}(hk:o.kind=3)(j:Nat):EB f o j=if j=o.at_ then none else f j:=by
 unfold EB;by_cases e:j=o.at_
 .rw[if_pos e,if_pos e,if_pos hk]
 .rw[if_neg e,if_neg e]
theorem El {wx:World}(hb:ZY w wx)(hg:wx.grownBy w' (some bm)):AA w w' bm :=
 ⟨hg.os.trans hb.os,hg.tape.trans hb.tape,hg.output.trans hb.output,Zv hb.size hg.size,fun k hk a=>(hg.block k (Zy hk hb.size) (fun e=>a (by simpa using e))).trans (hb.block k hk)⟩
theorem AE.drop (h:AE w bm f D){i:Nat}(hi:i<3){g:BI}(hg:∀j,g j=if j=i then none else f j)(ty:TypeId) :
  ∃w' y,(Builtin.delete_ #[89,9] ty #[.map (some bm),.string (CX i)]).run prog w=.ok (.tuple #[]) w'/\AE w' bm g y/\w.grownBy w' (some bm):=by
 obtain⟨w',v,q,n⟩:=World.ownsMap.drop h.own CI underlying89 (GR i) ty;have p:=n.grown;have r:=h.own.tidy CI
 have s:∀(k:Nat) (cs:Array Value) (fr:Nat×Nat),w.heap[k]? =some (Obj.cells cs 9 fr)->w'.heap[k]? =w.heap[k]? :=fun k cs fr e=>p.block k (Zaa e) (fun a=>by
  obtain⟨es,clock,hb,_⟩:=h.own;simp only[Option.some.injEq] at a;subst a;rw[hb] at e;cases e)
 have u:Maps.size (D.del (.string (Nz i)))=Hz g:=by
  have:=Maps.size_del (k:=.string (Nz i)) r;rw[h.Yp hi,h.size] at this;rw[Yb hi hg]
  cases e:(f i).isSome with
  | true=>rw[e] at this;simp at this ⊢;omega
  | false=>rw[e] at this;simpa using this
 refine⟨w',_,v,⟨q,u,fun key=> ?_,fun j t d e=> ?_⟩,p⟩
 .by_cases e:key=Nz i
  .subst e
   rw[Maps.has_del_same];simp only[Bool.false_eq_true,false_iff,not_exists,not_and];intro j d a;have:=Jx hi d a;subst this;rw[hg,if_pos rfl];decide
  .rw[Maps.has_del_other (fun a=>e (by injection a)),h.has]
   constructor
   .rintro⟨j,d,l,m⟩
    exact⟨j,d,l,by rw[hg,if_neg (fun x=>e (by rw[l,x]))];exact m⟩
   .rintro⟨j,d,l,m⟩
    rw[hg,if_neg (fun x=>e (by rw[l,x]))] at m;exact⟨j,d,l,m⟩
 .rw[hg] at e
  by_cases c:j=i
  .subst c
   rw[if_pos rfl] at e
   cases e
  .rw[if_neg c] at e
   obtain⟨b,l,m⟩:=h.at_ j t d e;exact⟨b,by rw[Maps.atKey_del_other (fun a=>c (Jx d hi (by injection a)))];exact l,(s b _ _ m).trans m⟩
theorem PB (w:World)(bm:Nat)(f:BI)(X:DataW Unit)(o:Jr)(h:AE w bm f X)(K:o.at_<3)(hk:o.kind=1\/o.kind=2\/o.kind=3)(L:∀s,f o.at_=some s->s.length+o.data.length<=9223372036854775807) :
  Calls prog 106 #[.map (some bm),opV o] w fun x w'=>x=.returned (.tuple #[])/\(∃V,AE w' bm (EB f o) V)/\AA w w' bm:=by
 obtain⟨kind,at_,data⟩:=o;simp only at K hk L;obtain⟨sd,k⟩:∃sd,sd=Zbn data:=⟨_,rfl⟩;obtain⟨nm,d⟩:∃nm,nm=CX at_:=⟨_,rfl⟩;obtain⟨ob,t⟩:∃ob,ob=w.heap.size:=⟨_,rfl⟩;obtain⟨l,u⟩:∃l,l=(w.alloc (.cells #[.int .i64 kind,.string nm,.string sd] 210)).alloc (.cells #[.string sd] 9):=⟨_,rfl⟩;obtain⟨sb,E⟩:∃sb,sb=ob+1:=⟨_,rfl⟩;have m:ZY w l:=by rw[u];exact (ZV.alloc ZU _).alloc (by simp) _
 have e:l.heap[sb]? =some (.cells #[.string sd] 9 (0,0)):=by rw[u,E,t];exact Zbm _ _ _ _ (by simp)
 have z:l.heap[ob]? =some (.cells #[.int .i64 kind,.string nm,.string sd] 210 (0,0)):=by
  rw[u,Zam _ _ _ (by rw[t];simp),t];exact heap_alloc_new w _
 have u0:l.cell? ⟨ob,0,none⟩=some (.int .i64 kind):=by unfold QEk;rw[z];rfl
 have u1:l.cell? ⟨ob,1,none⟩=some (.string nm):=by unfold QEk;rw[z];rfl
 have u2:l.cell? ⟨ob,2,none⟩=some (.string sd):=by unfold QEk;rw[z];rfl
 have s0:l.cell? ⟨sb,0,none⟩=some (.string sd):=by unfold QEk;rw[e];rfl
 have sf:l.frozen? ⟨sb,0,none⟩=false:=by simp[QHj,e]
 have G:=h.below m;have Z:=h.lt;have y:=Zz (Zq u (Zq t (Zq E (Zq m (Zq e (Zq G (Zq k d)))))));unfold opV;simp only;rw[<-k,<-d];rcases hk with rfl | rfl | rfl
 .obtain⟨H,M,A,n,r⟩:=G.store (i:=at_) K (nb:=sb) (s:=data) (by unfold Zdg;rw[<-k];exact e) (g:=EB f ⟨1,at_,data⟩) (fun j=>doF_wr rfl j)
  rw[<-d] at A;have C:=Zz (Zq n r);clear h G m e u E k d z n r L t
  go_enter func106,ntmps106
  go_upto_region 2 with fail
  rw[<-y.o.1,<-y.o.2.1,<-y.o.2.2.1];go_wp2_with fail
  go_end0
  exact⟨rfl,⟨M,C.o.1⟩,El y.o.2.2.2.1 C.o.2⟩
 .obtain⟨v,c,U⟩:=G.look (i:=at_) K
  rw[<-d] at c
  cases hf:f at_ with
  | none =>
   rw[hf] at c;simp only[Option.isSome_none] at c;obtain⟨H,M,A,n,r⟩:=G.store (i:=at_) K (nb:=sb) (s:=data) (by unfold Zdg;rw[<-k];exact e) (g:=EB f ⟨2,at_,data⟩) (fun j=>by rw[UI rfl j,hf];rfl);rw[<-d] at A;have C:=Zz (Zq n r);clear h G m e u E k d z n r L t U hf
   go_enter func106,ntmps106
   go_upto_region 2 with fail
   rw[<-y.o.1,<-y.o.2.1,<-y.o.2.2.1];go_wp2_with fail
   go_end0
   exact⟨rfl,⟨M,C.o.1⟩,El y.o.2.2.2.1 C.o.2⟩
  | some s =>
   rw[hf] at c;simp only[Option.isSome_some] at c;obtain⟨b,rfl,I⟩:=U s hf;have hle:=L s hf;obtain⟨H,F⟩:∃H,H=(l.setCell ⟨sb,0,none⟩ (.string (Zbn s++sd))).drew:=⟨_,rfl⟩;have R:ob≠sb:=by omega
   have Y:=m.size;have J:ZY w H:=by rw[F];exact (m.setCell (p:=⟨sb,0,none⟩) (by show w.heap.size<=sb;omega) _).drew
   have Q:H.heap[sb]? =some (.cells #[.string (Zbn s++sd)] 9 (0,0)):=by
    rw[F];have:=Zab (w:=l) (o:=0) e (.string (Zbn s++sd));exact this
   have v1:H.cell? ⟨ob,1,none⟩=some (.string nm):=by
    have:H.heap[ob]? =l.heap[ob]? :=by rw[F];exact Zl l ⟨sb,0,none⟩ _ ob R
    exact (QEc (a:=⟨ob,1,none⟩) this).trans u1
   obtain⟨w4,W,A,O,P⟩:=(h.below J).store (i:=at_) K (nb:=sb) (s:=s++data) (by unfold Zdg;rw[Nt,<-k];exact Q) (g:=EB f ⟨2,at_,data⟩) (fun j=>by rw[UI rfl j,hf];rfl);rw[<-d] at A;have C:=Zz (Zq O (Zq P (Zq J F)));have t0:l.cell? ⟨b,0,none⟩=some (.string (Zbn s)):=by unfold QEk;rw[I];rfl
   obtain⟨q,T⟩:∃q,q=Zbn s:=⟨_,rfl⟩;have N:(Op.stringOp .add q sd).run prog l.drew=.ok (.string (q++sd)) l.drew:=run_string_add_sum _ _ _ (by rw[T,k,Zeb,Zeb];exact hle);have S:(binOp .add 9 (.string q) (.string sd)).run prog l.drew=.ok (.string (q++sd)) l.drew:=by rw[binOp_string_add];exact N
   rw[<-T] at t0 C;clear h G m e u E k d z O P L t U hf F Q I T J hle
   go_enter func106,ntmps106
   go_upto_region 2 with fail
   rw[<-y.o.1,<-y.o.2.1,<-y.o.2.2.1]
   go_upto_region 6 with fail
   go_region
   all_goals
    rw[<-C.o.2.2.2];go_wp2_with fail
    go_end0
    exact⟨rfl,⟨W,C.o.1⟩,El C.o.2.2.1 C.o.2.1⟩
 .obtain⟨H,M,A,n,r⟩:=G.drop (i:=at_) K (g:=EB f ⟨3,at_,data⟩) (fun j=>doF_rm rfl j) 0
  rw[<-d] at A;have C:=Zz (Zq n r);clear h G m e u E k d z n r L t
  go_enter func106,ntmps106
  go_upto_region 2 with fail
  rw[<-y.o.1,<-y.o.2.1,<-y.o.2.2.1];go_wp2_with fail
  go_end0
  exact⟨rfl,⟨M,C.o.1⟩,El y.o.2.2.2.1 C.o.2⟩
structure Av (w:World)(R D bd bn:Nat)(d:Ax):Prop where
 rs:R<=w.heap.size
 c:∃pa pc,CF w D bd bn (.slice pa d.Ap.length pc) d.left d.full d.down/\w.ownsRow R 210 3 (.slice pa d.Ap.length pc) d.Ap.length (d.Ap.flatMap IW)
 fd:∃Dd,AE w bd d.CH Dd
 fn:∃Dn,AE w bn d.now Dn
 ne:bd≠bn
 Br:d.Ap.length<=8
 ops:∀o∈d.Ap,o.at_<3/\(o.kind=1\/o.kind=2\/o.kind=3)
structure DF (w w':World)(R D bd bn:Nat):Prop where
 os:w'.os=w.os
 tape:w'.tape=w.tape
 output:w'.output=w.output
 size:w.heap.size<=w'.heap.size
 block:∀k,k<w.heap.size->k≠D->k≠bd->k≠bn->(k<R\/∀cs fr,w.heap[k]? ≠some (.cells cs 210 fr))->w'.heap[k]? =w.heap[k]?
theorem DF.Ae (R D bd bn:Nat)(h:ZY w w'):DF w w' R D bd bn:=⟨h.os,h.tape,h.output,h.size,fun k hk _ _ _ _=>h.block k hk⟩
theorem DF.trans {x y z:World}{R D:Nat}(h:DF x y R D bd bn)(g:DF y z R D bd bn):DF x z R D bd bn :=
 ⟨g.os.trans h.os,g.tape.trans h.tape,g.output.trans h.output,Zv h.size g.size,fun k hk b c d a=>by
  have e:=h.block k hk b c d a;exact (g.block k (Zy hk h.size) b c d (a.imp id (fun a cs fr=>by rw[e];exact a cs fr))).trans e⟩
theorem DF.CK {k R D:Nat}(h:AA w w' k)(hk:k=D\/k=bd\/k=bn):DF w w' R D bd bn :=
 ⟨h.os,h.tape,h.output,h.size,fun j a b c d _=>h.block j a (by rcases hk with rfl | rfl | rfl<;>assumption)⟩
theorem Av.below {R D:Nat}{d:Ax}(h:Av w R D bd bn d)(hb:ZY w w'):Av w' R D bd bn d:=by
 obtain⟨m,n,a,i⟩:=h.c;obtain⟨b,k⟩:=h.fd;obtain⟨e,l⟩:=h.fn;exact⟨Zv h.rs hb.size,⟨m,n,a.at_ (hb.block _ (Zaa a.Au)),Zak i hb⟩,⟨b,k.below hb⟩,⟨e,l.below hb⟩,h.ne,h.Br,h.ops⟩
theorem Av.Ak {R D:Nat}{d:Ax}(h:Av w R D bd bn d)(b:w.heap.size<=w'.heap.size)(q:w'.heap[D]? =w.heap[D]?)(n:w'.heap[bd]? =w.heap[bd]?)(p:w'.heap[bn]? =w.heap[bn]?)(a:∀(k:Nat) (cs:Array Value) (t:TypeId) (fr:Nat×Nat),w.heap[k]? =some (Obj.cells cs t fr)->(t=9\/t=210)->w'.heap[k]? =w.heap[k]?):Av w' R D bd bn d:=by
 obtain⟨s,u,q1,i⟩:=h.c;obtain⟨l,v⟩:=h.fd;obtain⟨m,y⟩:=h.fn;refine⟨Zv h.rs b,⟨s,u,q1.at_ q,i.1,?_⟩,⟨l,v.Ak n (fun k cs fr e=>a k cs _ fr e (Zu rfl))⟩,⟨m,y.Ak p (fun k cs fr e=>a k cs _ fr e (Zu rfl))⟩,h.ne,h.Br,h.ops⟩;rcases i.2 with x | ⟨g,cap,cur,x,hg,hh,r⟩
 .exact Zu x
 .exact Zj ⟨g,cap,cur,x,hg,(a g _ _ _ hh (Zj rfl)).trans hh,r⟩
theorem infoOp:(prog.info? 210).map (fun i=>(i.zero,i.size,i.bytes))=some (some (.agg #[.int .i64 0,.string ⟨#[]⟩,.string ⟨#[]⟩]),3,40):=by kernel_rfl
