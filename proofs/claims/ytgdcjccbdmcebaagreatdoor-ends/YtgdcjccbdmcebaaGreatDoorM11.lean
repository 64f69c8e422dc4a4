import Derived.Test.YtgdcjccbdmcebaaGreatDoorM05
import Derived.Test.YtgdcjccbdmcebaaGreatDoorM10
set_option linter.unusedSimpArgs false
set_option linter.unusedVariables false
set_option maxHeartbeats 8000000
set_option maxRecDepth 100000
namespace Go.Proofs.YtgdcjccbdmcebaaGreatDoor
open Tryz
open Go.RowKit
variable {Na:Nat->Option Addr}{Nc:Nat->Nat}{w w1:World}{a a0 na:Option Addr}{F:Ad}{B k g c:Nat}{cs:Array Value}{v:Value}{t:TypeId}
def Zef (F:Ad)(i:Nat)(a:Option Addr)(c:Nat):List Value :=
 [.int .i64 (F.bu i), .int .i64 (F.cl i), .int .i64 (F.be i), .int .i64 (F.ba i), .int .i64 (F.ca i), .int .i64 (F.ji i), .slice a (F.an i) c]
def Zbv (F:Ad)(Na:Nat->Option Addr)(Nc:Nat->Nat):Nat->List Value
 | 0=>[]
 | k+1=>Zbv F Na Nc k++Zef F k (Na k) (Nc k)
def Zbz (n:Nat)(f:Nat->Int):List Value:=(List.range n).map fun k=> .int .i64 (f k)
theorem Zeq (F:Ad)(Na:Nat->Option Addr)(Nc:Nat->Nat)(k:Nat):(Zbv F Na Nc k).length=k * 7:=by
 induction k with
 | zero=>rfl
 | succ k b=>simp only[Zbv,ZX,b,Zef,List.length_cons,List.length_nil];omega
theorem MU {b:Nat->Option Addr}{d:Nat->Nat}(h:∀i,i<k->Na i=b i/\Nc i=d i):Zbv F Na Nc k=Zbv F b d k:=by
 induction k with
 | zero=>rfl
 | succ k e=>simp only[Zbv];rw[e fun i hi=>h i (by omega),(h k (by omega)).1,(h k (by omega)).2]
theorem Ik (F:Ad)(Na:Nat->Option Addr)(Nc:Nat->Nat)(k i j:Nat)(hi:i<k)(d:j<7):(Zbv F Na Nc k)[i * 7+j]? =(Zef F i (Na i) (Nc i))[j]? :=by
 induction k with
 | zero=>omega
 | succ k b =>
  simp only[Zbv];by_cases e:i=k
  ·subst e
   rw[List.getElem?_append_right (by rw[Zeq];omega),Zeq]
   congr 1
   omega
  ·rw[List.getElem?_append_left (by rw[Zeq];omega)]
   exact b (by omega)
theorem GO (n:Nat)(f:Nat->Int):(Zbz n f).length=n:=by simp[Zbz]
theorem JV (n:Nat)(f:Nat->Int)(k:Nat)(h:k<n):(Zbz n f)[k]? =some (.int .i64 (f k)):=by simp[Zbz,h]
structure An (B:Nat)(w:World)(F:Ad)(v:Value)(k:Nat)(Na:Nat->Option Addr)(Nc:Nat->Nat):Prop where
 own:w.ownsRow B 130 7 v k (Zbv F Na Nc k)
 ID:∀i,i<k->w.ownsRow B 3 1 (.slice (Na i) (F.an i) (Nc i)) (F.an i) (Zbz (F.an i) (F.af i))
theorem An.below {w':World}(h:An B w F v k Na Nc)(b:Below w.heap.size w w'):An B w' F v k Na Nc :=
 ⟨Zam h.own b,fun i hi=>Zam (h.ID i hi) b⟩
theorem Il {e e':TypeId}{size d n n':Nat}{v':Value}{xs f:List Value}(h:w.ownsRow B e size v n xs)(m:w.ownsRow B e' d v' n' f)(he:e≠e'):v.ownBlock=none\/v.ownBlock≠v'.ownBlock:=by
 rcases h.2 with⟨rfl,rfl⟩ | ⟨g,cap,cur,rfl,hg,hh,_⟩
 ·exact Zu rfl
 ·right
  rcases m.2 with⟨rfl,rfl⟩ | ⟨p,i,j,rfl,o,b,_⟩
  ·simp[Value.ownBlock]
  ·intro l
   simp only[Value.ownBlock,Option.some.injEq] at l;subst l;rw[hh] at b;simp only[Option.some.injEq,Obj.cells.injEq] at b;exact he b.2.1
theorem OD {n:Nat}{f:Nat->Int}(h:w.ownsRow B 3 1 (.slice a n c) n (Zbz n f)):Cz w a n c f:=by
 by_cases hn:n=0
 ·exact Zu hn
 ·rcases h.2 with⟨_,b⟩ | ⟨g,cap,cur,b,hg,hh,e,i,o,p⟩
  ·exact absurd b hn
  ·obtain⟨j,_,l⟩:a=some ⟨g,0,none⟩/\n=n/\c=cap:=by simpa using b
   subst j l;obtain⟨d,_⟩:=Array.getElem?_eq_some_iff.1 hh;refine Zj ⟨g,0,rfl,e,i,d,fun k m=> ?_⟩;have:=h.cellAt k (by omega);rw[Nat.zero_add,this,JV n f k m]
theorem An.node {cap:Nat}(h:An B w F (.slice (some ⟨g,0,none⟩) k cap) k Na Nc):∀i,i<k->Ds w F i g (0+i * 7) (Na i) (Nc i):=by
 intro i hi
 have key:∀j,j<7->w.cell? ⟨g,0+i * 7+j,none⟩=(Zef F i (Na i) (Nc i))[j]? :=fun j b=>by
  have:=h.own.cellAt (i * 7+j) (by omega);rw[Nat.zero_add,this,Ik F Na Nc k i j hi b]
 exact⟨key 0 (by omega),key 1 (by omega),key 2 (by omega),key 3 (by omega),key 4 (by omega),key 5 (by omega),key 6 (by omega),OD (h.ID i hi)⟩
theorem An.lt {cap:Nat}(h:An B w F (.slice (some ⟨g,0,none⟩) k cap) k Na Nc):B<=g/\g<w.heap.size:=h.own.lt g rfl
theorem An.more {d:World}{v':Value}(h:An B w F v k Na Nc)(f:w1.ownsRow B 3 1 (.slice a (F.an k) c) (F.an k) (Zbz (F.an k) (F.af k)))
  (hb:Below w.heap.size w w1) (hown:d.ownsRow B 130 7 v' (k+1) (Zbv F Na Nc k++Zef F k a c)) (hg:w1.grownBy d v.ownBlock) :
  An B d F v' (k+1) (fun i=>if i=k then a else Na i) (fun i=>if i=k then c else Nc i):=by
 have b:=Zam h.own hb;constructor
 ·have e:Zbv F (fun i=>if i=k then a else Na i) (fun i=>if i=k then c else Nc i) (k+1)=Zbv F Na Nc k++Zef F k a c:=by
   simp only[Zbv,if_true]
   congr 1
   exact MU fun i hi=>⟨if_neg (by omega),if_neg (by omega)⟩
  rw[e];exact hown
 ·intro i hi
  by_cases e:i=k
  ·subst e
   simp only[if_true];exact f.kept hg (Il f b (by decide))
  ·simp only[e,if_false]
   have j:=Zam (h.ID i (by omega)) hb;exact j.kept hg (Il j b (by decide))
structure Mo (w wr:World)(F:Ad)(a:Option Addr)(cap:Nat):Prop where
 bA:wr.heap[w.heap.size]? =some (.cells #[.int .i64 F.dl, .slice a F.n cap] 61 (0,0))
 bB:wr.heap[w.heap.size+1]? =some (.cells #[.int .i64 0, .slice none 0 0] 61 (0,0))
 sz:w.heap.size+1<wr.heap.size
 bl:Below w.heap.size w wr
theorem Mo.Aj {wr wx:World}{cap:Nat}(h:Mo w wr F a cap)(b:Below (w.heap.size+2) wr wx):Mo w wx F a cap :=
 ⟨(b.block _ (by omega)).trans h.bA,(b.block _ (by omega)).trans h.bB,Zy h.sz b.size,h.bl.trans (b.mono (by omega))⟩
theorem Mo.start (w:World)(F:Ad)(a:Option Addr)(cap:Nat):Mo w ((w.alloc (.cells #[.int .i64 F.dl, .slice a F.n cap] 61)).alloc (.cells #[.int .i64 0, .slice none 0 0] 61)) F a cap :=
 ⟨heap_alloc2_old _ _ _,heap_alloc2_new _ _ _,by simp,((Zk _ _).alloc (Zx _) _).alloc (by simp) _⟩
theorem Zad (h:w.heap[g]? =some (.cells cs t (0,0)))(j:Nat):w.cell? ⟨g,j,none⟩=cs[j]? :=cell_of_row w g j cs t (0,0) h
theorem Za9 (h:w.heap[g]? =some (.cells cs t (0,0)))(j:Nat):w.frozen? ⟨g,j,none⟩=false:=frozen_of_row w g j cs t h
theorem PK {b:World}{m v1:Value}{c0:Nat}(i:An (w.heap.size+2) w1 F m k Na Nc)
  (hown1:b.ownsRow (w.heap.size+2) 3 1 v1 (0+F.an k) ([]++Zbz (F.an k) (F.af k)))
  (hgrow1:(w1.alloc (.cells #[.int .i64 (F.bu k), .int .i64 (F.cl k), .int .i64 (F.be k), .int .i64 (F.ba k), .int .i64 (F.ca k), .int .i64 (F.ji k), .slice a0 (F.an k) c0] 130)).grownBy b none) :
  ∃na nc,v1= .slice na (F.an k) nc/\w1.heap.size<b.heap.size/\b.heap[w1.heap.size]? =some (.cells #[.int .i64 (F.bu k), .int .i64 (F.cl k), .int .i64 (F.be k), .int .i64 (F.ba k), .int .i64 (F.ca k), .int .i64 (F.ji k), .slice a0 (F.an k) c0] 130 (0,0)) /\
   (∀x o,((b.setCell ⟨w1.heap.size,6,none⟩ x).alloc o).ownsRow (w.heap.size+2) 130 7 m k (Zbv F Na Nc k)) /\
   (∀x o,((b.setCell ⟨w1.heap.size,6,none⟩ x).alloc o).ownsRow (w.heap.size+2) 3 1 (.slice na (F.an k) nc) (F.an k) (Zbz (F.an k) (F.af k))) /\
   (∀x o,Below w1.heap.size w1 ((b.setCell ⟨w1.heap.size,6,none⟩ x).alloc o)):=by
 rw[Nat.zero_add,List.nil_append] at hown1;obtain⟨na,nc,rfl⟩:=Zaz hown1;have l:w1.heap.size<b.heap.size:=by have:=hgrow1.size;simp at this;omega
 have f:b.heap[w1.heap.size]? =some (.cells #[.int .i64 (F.bu k), .int .i64 (F.cl k), .int .i64 (F.be k), .int .i64 (F.ba k), .int .i64 (F.ca k), .int .i64 (F.ji k), .slice a0 (F.an k) c0] 130 (0,0)) :=
  (hgrow1.block _ (by simp) (by simp)).trans (heap_alloc_new _ _)
 have j:Below w1.heap.size w1 b:=((Zk _ _).alloc (Zx _) _).grown hgrow1 (by simp) (fun k h=>by cases h);have d:∀x o,Below w1.heap.size w1 ((b.setCell ⟨w1.heap.size,6,none⟩ x).alloc o):=fun x o=>(j.setCell (by simp) x).alloc (by simp[World.setCell];omega) o
 refine⟨na,nc,rfl,l,f,fun x o=>Zam i.own (d x o),fun x o=> ?_,d⟩;refine (ownsRow_setCell_other hown1 (fun e=> ?_) x).alloc o;rcases hown1.2 with⟨h,_⟩ | ⟨g,cap,cur,h,hg,hh,_⟩
 ·rw[h] at e;simp[Value.ownBlock] at e
 ·rw[h] at e
  simp only[Value.ownBlock,Option.some.injEq] at e;rw[e,f] at hh;simp only[Option.some.injEq,Obj.cells.injEq] at hh;exact absurd hh.2.1 (by decide)
theorem JJ {w4 h:World}{i v2:Value}{b o cap:Nat}{nc:Nat}(d:An (w.heap.size+2) w1 F i k Na Nc)(e:Mo w w1 F (some ⟨b,o,none⟩) cap)
  (hints:w4.ownsRow (w.heap.size+2) 3 1 (.slice na (F.an k) nc) (F.an k) (Zbz (F.an k) (F.af k))) (hb:Below w1.heap.size w1 w4)
  (hown2:h.ownsRow (w.heap.size+2) 130 7 v2 (k+1) (Zbv F Na Nc k++Zef F k na nc)) (hgrow2:w4.grownBy h i.ownBlock) :
  ∃(f:Option Addr) (lc:Nat) (Na':Nat->Option Addr) (Nc':Nat->Nat),v2= .slice f (k+1) lc/\An (w.heap.size+2) h F (.slice f (k+1) lc) (k+1) Na' Nc'/\Mo w h F (some ⟨b,o,none⟩) cap:=by
 have j:=d.more hints hb hown2 hgrow2;obtain⟨f,lc,rfl⟩:=Zaz hown2;refine⟨f,lc,_,_,rfl,j,e.Aj ?_⟩;have l:=e.sz;have m:=hb.size;refine (hb.mono (by omega)).grown hgrow2 (by omega) fun g hg=> ?_;exact (d.own.lt g hg).1
open Go.RowKit
attribute [local go_sem ↓] Go.wp_at_zero Go.wp_at_succ
def Zdo (F:Ad)(Na:Nat->Option Addr)(Nc:Nat->Nat)(k:Nat):Cl:=⟨F.bu k,F.cl k,F.be k,F.ba k,F.ca k,F.ji k,Na k,Nc k,(List.range (F.an k)).map (F.af k),1,0,0⟩
def Zcv (F:Ad)(Na:Nat->Option Addr)(Nc:Nat->Nat)(k:Nat):List Cl:=(List.range k).map (Zdo F Na Nc)
theorem JR (F:Ad)(Na:Nat->Option Addr)(Nc:Nat->Nat)(k:Nat):(Zcv F Na Nc k).length=k:=by simp[Zcv]
theorem Ou (F:Ad)(Na:Nat->Option Addr)(Nc:Nat->Nat)(k:Nat):Zcv F Na Nc (k+1)=Zcv F Na Nc k++[Zdo F Na Nc k]:=by unfold Zcv;rw[List.range_succ,List.map_append];rfl
theorem LI {n:Nat}(b:k<n):(Zcv F Na Nc n).getD k .z=Zdo F Na Nc k:=by
 unfold Zcv;rw[ZQ,List.getElem?_map,List.getElem?_range b];rfl
theorem Ov (F:Ad)(Na:Nat->Option Addr)(Nc:Nat->Nat)(k:Nat):(Zdo F Na Nc k).af.length=F.an k:=by simp[Zdo]
theorem infoNd:(prog.info? 276).map (fun i=>(i.zero,i.size,i.bytes))=some (some (.agg #[.int .i64 0, .int .i64 0, .int .i64 0, .int .i64 0, .int .i64 0, .int .i64 0, .slice none 0 0, .int .i64 0, .int .i64 0, .int .u64 0]),10,96):=by kernel_rfl
theorem Tu (h:An B w F (.slice a F.n c) F.n Na Nc)(hn:0<F.n):∃g,a=some ⟨g,0,none⟩/\g<w.heap.size/\F.n<=c/\∀i j,i<F.n->j<7->w.cell? ⟨g,i * 7+j,none⟩=(Zef F i (Na i) (Nc i))[j]? :=by
 rcases h.own.2 with⟨_,b⟩ | ⟨g,cap,cur,b,hg,hh,d,m,o,p⟩
 ·omega
 ·obtain⟨e,_,f⟩:a=some ⟨g,0,none⟩/\F.n=F.n/\c=cap:=by simpa using b
  subst e f;refine⟨g,rfl,Zaa hh,d,fun i j hi l=> ?_⟩;rw[h.own.cellAt (i * 7+j) (by omega),Ik F Na Nc F.n i j hi l]
theorem Ki (w:World)(B:Nat)(id:Int)(F:Ad)(a:Option Addr)(c:Nat)(Na:Nat->Option Addr)(Nc:Nat->Nat)(h:An B w F (.slice a F.n c) F.n Na Nc)(Q:1<=F.n)(aw:F.n<=12)(hB:B<=w.heap.size) :
  Calls prog 197 #[.int .u64 id, .agg #[.int .i64 F.dl, .slice a F.n c]] w fun e w'=>∃r,e= .returned (.pointer (some ⟨r.b,0,none⟩))/\r.id=id/\r.st=1/\r.ns=Zcv F Na Nc F.n/\w.heap.size<=r.b/\w.heap.size<=r.ng/\AW w' B r/\Below w.heap.size w w':=by
 obtain⟨g,rfl,al,ax,y⟩:=Tu h Q;have H:=Zz (Zq h y);obtain⟨n,hn⟩:∃n,n=F.n:=⟨_,rfl⟩;have HN:=Zz hn;rw[<-hn] at Q aw ax ⊢;obtain⟨i10,hi,T,U,V⟩:=info_parts infoNd;have X:=Zz (Zq hi (Zq T (Zq U V)));clear h y hn hi T U V
 go_enter func197,ntmps197
 go_wp2_with fail
 go_loopw [14] (fun iv wr=>∃(i:Nat) (K:Option Addr) (u:Nat),iv= .int .i64 i/\i<=n/\wr.heap[w.heap.size+1]? =some (.cells #[.int .u64 id, .int .i64 1, .slice K i u] 272 (0,0))/\wr.ownsRow w.heap.size 276 10 (.slice K i u) i ((Zcv F Na Nc i).flatMap NC)/\Below w.heap.size w wr) (fun iv _=>n - (intOf iv).toNat)
 case atStart =>
  refine⟨0,none,0,rfl,by omega,?_,World.ownsRow_nil _ _ _ _,((Zk _ _).alloc (Zx _) _).alloc (by simp) _⟩;exact Zbk _ _ _ _ (by simp)
 case round =>
  obtain⟨i,K,u,rfl,hi,q,s,I⟩:=hrel;have HR:=Zz (Zq q (Zq s I));have S:w.heap.size+1<wr.heap.size:=Zaa q;by_cases h1:i<n
  ·have ar:i<F.n:=by have:=HN.o;omega
   have t:∀j v,(Zef F i (Na i) (Nc i))[j]? =some v->wr.cell? ⟨g,i * 7+j,none⟩=some v:=by
    intro j v hv;have hj:j<7:=(List.getElem?_eq_some_iff.1 hv).1;exact (World.cell?_of_block (a:=⟨g,i * 7+j,none⟩) (I.block g al)).trans ((H.o.2 i j ar hj).trans hv)
   have t0:wr.cell? ⟨g,i * 7,none⟩=some (.int .i64 (F.bu i)):=t 0 _ rfl;have t1:=t 1 _ rfl;have t2:=t 2 _ rfl;have t3:=t 3 _ rfl;have t4:=t 4 _ rfl;have t5:=t 5 _ rfl;have t6:=t 6 _ rfl;have i1:(i:Int)<(n:Int):=by omega
   obtain⟨d,E⟩:∃d,d=wr.alloc (.cells #[.int .i64 (F.bu i), .int .i64 (F.cl i), .int .i64 (F.be i), .int .i64 (F.ba i), .int .i64 (F.ca i), .int .i64 (F.ji i), .slice (Na i) (F.an i) (Nc i)] 130):=⟨_,rfl⟩;obtain⟨nb,O⟩:∃nb,nb=wr.heap.size:=⟨_,rfl⟩;have G:Below wr.heap.size wr d:=by rw[E];exact (Zk _ _).alloc (Zx _) _
   have f:d.heap[nb]? =some (.cells #[.int .i64 (F.bu i), .int .i64 (F.cl i), .int .i64 (F.be i), .int .i64 (F.ba i), .int .i64 (F.ca i), .int .i64 (F.ji i), .slice (Na i) (F.an i) (Nc i)] 130 (0,0)):=by rw[E,O];exact heap_alloc_new _ _
   have l:=(G.block _ S).trans q;have u0:d.cell? ⟨nb,0,none⟩=some (.int .i64 (F.bu i)):=by unfold World.cell?;rw[f];rfl
   have u1:d.cell? ⟨nb,1,none⟩=some (.int .i64 (F.cl i)):=by unfold World.cell?;rw[f];rfl
   have u2:d.cell? ⟨nb,2,none⟩=some (.int .i64 (F.be i)):=by unfold World.cell?;rw[f];rfl
   have u3:d.cell? ⟨nb,3,none⟩=some (.int .i64 (F.ba i)):=by unfold World.cell?;rw[f];rfl
   have u4:d.cell? ⟨nb,4,none⟩=some (.int .i64 (F.ca i)):=by unfold World.cell?;rw[f];rfl
   have u5:d.cell? ⟨nb,5,none⟩=some (.int .i64 (F.ji i)):=by unfold World.cell?;rw[f];rfl
   have u6:d.cell? ⟨nb,6,none⟩=some (.slice (Na i) (F.an i) (Nc i)):=by unfold World.cell?;rw[f];rfl
   obtain⟨rb,J⟩:∃rb,rb=w.heap.size+1:=⟨_,rfl⟩;rw[<-J] at l S;have bo:w.heap.size<=rb:=by omega
   have m2:d.cell? ⟨rb,2,none⟩=some (.slice K i u):=by unfold World.cell?;rw[l];rfl
   have mz:d.frozen? ⟨rb,2,none⟩=false:=by unfold World.frozen?;rw[l];rfl
   have A:=Zam s G;have Y:=Zz (Zq E (Zq O (Zq G (Zq l J))));have R:d.heap.size=wr.heap.size+1:=by rw[E];simp
   have ay:rb<d.heap.size:=by omega
   have bp:w.heap.size<=d.heap.size:=by omega
   have bh:=Zz R;clear R;have Z:=Zz A;clear t q s I f G l A;rw[<-J];clear J E O
   go_upto_region 5 with fail
   rw[<-Y.o.2.1,<-Y.o.1];clear t0 t1 t2 t3 t4 t5 t6;obtain⟨W,bf⟩:∃W,W=d.alloc (.cells #[.int .i64 (F.bu i), .int .i64 (F.cl i), .int .i64 (F.be i), .int .i64 (F.ba i), .int .i64 (F.ca i), .int .i64 (F.ji i), .slice (Na i) (F.an i) (Nc i), .int .i64 1, .int .i64 0, .int .u64 0] 276):=⟨_,rfl⟩;have az:=cell_later (((Zk d.heap.size d).alloc (Zx _) (.cells #[.int .i64 (F.bu i), .int .i64 (F.cl i), .int .i64 (F.be i), .int .i64 (F.ba i), .int .i64 (F.ca i), .int .i64 (F.ji i), .slice (Na i) (F.an i) (Nc i), .int .i64 1, .int .i64 0, .int .u64 0] 276)).drew) m2;have b9:=cell_later ((Zk d.heap.size d).alloc (Zx _) (.cells #[.int .i64 (F.bu i), .int .i64 (F.cl i), .int .i64 (F.be i), .int .i64 (F.ba i), .int .i64 (F.ca i), .int .i64 (F.ji i), .slice (Na i) (F.an i) (Nc i), .int .i64 1, .int .i64 0, .int .u64 0] 276)) m2
   have N:some rb≠(Value.slice K i u).ownBlock:=fun x=>by
    rcases Z.o.2 with⟨M,_⟩ | ⟨g2,cap,cur,M,_,hh,_⟩
    ·rw[M] at x;simp[Value.ownBlock] at x
    ·rw[M] at x
     simp only[Value.ownBlock,Option.some.injEq] at x;exact Zai Y.o.2.2.2.1 hh (by decide) x
   go_region_law ((refine step_append_lies _ (by rfl) _ _ _ (by rfl) w.heap.size 276 i10 _ 10 96 underlying270 X.o.1 X.o.2.1 X.o.2.2.1 X.o.2.2.2 rfl (by omega) (.slice K i u) i ((Zcv F Na Nc i).flatMap NC) (by rfl) ((Z.o.alloc _).drew) ⟨d.heap.size,0,none⟩ 1 1 [.int .i64 (F.bu i), .int .i64 (F.cl i), .int .i64 (F.be i), .int .i64 (F.ba i), .int .i64 (F.ca i), .int .i64 (F.ji i), .slice (Na i) (F.an i) (Nc i), .int .i64 1, .int .i64 0, .int .u64 0] (by rfl) (by rfl) (World.news_of_block (cs:=#[.int .i64 (F.bu i), .int .i64 (F.cl i), .int .i64 (F.be i), .int .i64 (F.ba i), .int .i64 (F.ca i), .int .i64 (F.ji i), .slice (Na i) (F.an i) (Nc i), .int .i64 1, .int .i64 0, .int .u64 0]) (t:=276) (fr:=(0,0)) (heap_alloc_new d _)) (by simp[Value.oneCell']) (by omega) (by unfold maxLen;omega) (by omega) (by simp;omega) (d.heap.size+1) (by simp) ?_;intro gg L w7 C m P av;have s1:=(m.cell_far ⟨rb,2,none⟩ (by simp;omega) N).trans (cell_later (((Zk d.heap.size d).alloc (Zx _) _).drew) m2);have sz:=(m.frozen_far ⟨rb,2,none⟩ (by simp;omega) N).trans (((((Zk d.heap.size d).alloc (Zx _) (.cells #[.int .i64 (F.bu i), .int .i64 (F.cl i), .int .i64 (F.be i), .int .i64 (F.ba i), .int .i64 (F.ca i), .int .i64 (F.ji i), .slice (Na i) (F.an i) (Nc i), .int .i64 1, .int .i64 0, .int .u64 0] 276)).drew).frozen (p:=⟨rb,2,none⟩) (by simp only[];omega)).trans mz)))
   all_goals
    have HK:=Zz (Zq C (Zq m P));clear C m P av s1 sz m2 az b9 mz;go_wp2_with fail
    refine⟨?_,by simp[intOf];omega⟩;obtain⟨k1,k2,k3⟩:=HK.o;obtain⟨q1,q2,q3,q4,q5⟩:=Y.o
    have ae:Below w.heap.size w w7:=by
     refine ((((HR.o.2.2.trans' q3).alloc (by omega) _).drew).grown k2 (by show w.heap.size<=(d.alloc _).heap.size;simp;omega) (fun z hz=>(Z.o.lt z hz).1))
    have D:w7.heap[rb]? =some (.cells #[.int .u64 id, .int .i64 1, .slice K i u] 272 (0,0)):=by
     refine (k2.block rb (by show rb<(d.alloc _).heap.size;simp;omega) N).trans ?_;exact (Zao d _ rb ay).trans q4
    have hs:=Ou F Na Nc i;refine⟨i+1,some ⟨gg,0,none⟩,L,by go_num,by omega,?_,?_,ae.setCell (by show w.heap.size<=rb;omega) _⟩
    ·rw[Zab D];rfl
    ·have k4:w7.ownsRow w.heap.size 276 10 (.slice (some ⟨gg,0,none⟩) (i+1) L) (i+1) ((Zcv F Na Nc (i+1)).flatMap NC):=by
      rw[hs,List.flatMap_append,List.flatMap_singleton]
      have:NC (Zdo F Na Nc i)=[.int .i64 (F.bu i), .int .i64 (F.cl i), .int .i64 (F.be i), .int .i64 (F.ba i), .int .i64 (F.ca i), .int .i64 (F.ji i), .slice (Na i) (F.an i) (Nc i), .int .i64 1, .int .i64 0, .int .u64 0]:=by
       unfold NC Zdo;simp
      rw[this];exact k1
     exact Zae k4 D (by decide) _
  ·have e:i=n:=by omega
   subst e;have i1:¬(i:Int)<(i:Int):=by omega
   clear h1 q s I;go_wp2_with fail
   go_ret
   obtain⟨k1,k2,k3⟩:=HR.o;have hF:F.n=i:=HN.o.symm
   obtain⟨g2,cur,ag,aj,hh,bj⟩:∃g2 cur,K=some ⟨g2,0,none⟩/\w.heap.size<=g2/\wr.heap[g2]? =some (.cells cur 276 (0,0))/\i<=u:=by
    rcases k2.2 with⟨M,_⟩ | ⟨g2,cap,cur,M,hg,hh,h3,_⟩
    ·simp only[Value.slice.injEq] at M;omega
    ·obtain⟨rfl,_,rfl⟩:K=some ⟨g2,0,none⟩/\i=i/\u=cap:=by simpa using M
     exact⟨g2,cur,rfl,hg,hh,h3⟩
   subst ag;have hl:=JR F Na Nc i;refine⟨⟨w.heap.size+1,id,1,g2,u,Zcv F Na Nc i⟩,rfl,rfl,rfl,rfl,by simp,aj,⟨?_,?_,?_,fun k hk=> ?_,?_,?_⟩,k3⟩
   ·show wr.heap[w.heap.size+1]? =_
    rw[k1];unfold rnC;simp only[hl]
   ·show B<=w.heap.size+1;omega
   ·show wr.ownsRow B _ 10 (.slice (some ⟨g2,0,none⟩) (Zcv F Na Nc i).length u) (Zcv F Na Nc i).length _
    rw[hl];exact Zcr k2 hB
   ·have au:k<i:=by
     have:k<(Zcv F Na Nc i).length:=hk;omega
    have e:(⟨w.heap.size+1,id,1,g2,u,Zcv F Na Nc i⟩:Aq).at_ k=Zdo F Na Nc k:=LI au;rw[e];have:=Zam (H.o.1.ID k (by omega)) k3;unfold NJ;have e2:afV (Zdo F Na Nc k).af=Zbz (F.an k) (F.af k):=by unfold afV Zdo Zbz;simp
    rw[e2,Ov];exact this
   ·show 1<=(Zcv F Na Nc i).length;omega
   ·show (Zcv F Na Nc i).length<=12;omega
end Go.Proofs.YtgdcjccbdmcebaaGreatDoor
