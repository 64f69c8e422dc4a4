import Derived.Test.YtgdcjccbdmcebaaGreatDoorM01
import Derived.Test.YtgdcjccbdmcebaaGreatDoorProg
import GoSem.Claim
import GoSem.ClaimJoined
import GoSem.ClaimMapViews
import Derived.JoinedTies
import Derived.KernelRfl
import Derived.RowKit
import Derived.WalkKit
import Derived.WalkSpells
import Derived.WalkLawsBesides
import Derived.Deep.OwnRows
import Derived.Deep.QuietTactic
import Derived.BigQuiet
import Derived.Below
import Derived.Lib.SliceRun
import Derived.Laws.IdiomCopy
import Derived.Laws.MakeOwn
import Derived.Laws.OwnMore
import Derived.Deep.RegionHeld3
import Derived.Deep.RegionLaw
import Derived.Deep.DrawnRows
import Derived.Deep.AppendLies
set_option linter.unusedSimpArgs false
set_option linter.unusedVariables false
set_option maxHeartbeats 1000000
set_option maxRecDepth 100000
namespace Go.Proofs.YtgdcjccbdmcebaaGreatDoor
open Tryz
open Go.RowKit
theorem Zz {p:Prop}(h:p):Go.RowKit.Hid p:=h
theorem Zq {a b:Prop}(h:a)(g:b):a/\b:=⟨h,g⟩
theorem Zx (n:Nat):n<=n:=Nat.le_refl n
theorem Zy {a b c:Nat}(h:a<b)(g:b<=c):a<c:=Nat.lt_of_lt_of_le h g
theorem Zv {a b c:Nat}(h:a<=b)(g:b<=c):a<=c:=Nat.le_trans h g
theorem Zu {a b:Prop}(h:a):a\/b:=Or.inl h
theorem Zj {a b:Prop}(h:b):a\/b:=Or.inr h
theorem Zk (B:Nat)(w:World):Below B w w:=Below.refl B w
theorem Zw {w v:World}{a:Addr}(h:v.heap[a.block]? =w.heap[a.block]?):v.cell? a=w.cell? a:=World.cell?_of_block h
theorem Zm {w v:World}{a:Addr}(h:v.heap[a.block]? =w.heap[a.block]?):v.frozen? a=w.frozen? a:=World.frozen?_of_block h
theorem Zl (w:World)(a:Addr)(u:Value)(k:Nat)(h:k≠a.block):(w.setCell a u).heap[k]? =w.heap[k]? :=Below.heap_setCell w a u k h
theorem ZZ {α:Type}{l:List α}{i:Nat}(h:i<l.length):l[i]? =some l[i]:=List.getElem?_eq_getElem h
theorem ZQ {α:Type}{l:List α}{i:Nat}{a:α}:l.getD i a=l[i]?.getD a:=List.getD_eq_getElem?_getD
theorem ZX {α:Type}{a b:List α}:(a++b).length=a.length+b.length:=List.length_append
theorem _root_.Go.RowKit.Hid.o {p:Prop}(h:Go.RowKit.Hid p):p:=h
theorem rb {a b:Bool}(h:a=b):Ending.returned (.bool a)= .returned (.bool b):=by rw[h]
theorem ri {k:IntKind}{a b:Int}(h:a=b):Ending.returned (.int k a)= .returned (.int k b):=by rw[h]
theorem dT {p:Prop} [Decidable p](h:p):true=decide p:=(decide_eq_true h).symm
theorem dF {p:Prop} [Decidable p](h:¬p):false=decide p:=(decide_eq_false h).symm
theorem Rg (n lo hi:Int)(w:World) :
  Calls prog 216 #[.int .i64 n, .int .i64 lo, .int .i64 hi] w fun e w'=>e= .returned (.bool (decide (lo<=n/\n<=hi)))/\w'=w:=by
 by_cases a:lo<=n
 ·by_cases b:n<=hi
  ·go_enter func216,ntmps216
   go_wp2
   go_ret
   exact⟨rb (dT (by omega)),rfl⟩
  ·go_enter func216,ntmps216
   go_wp2
   go_ret
   exact⟨rb (dF (by omega)),rfl⟩
 ·go_enter func216,ntmps216
  go_wp2
  go_ret
  exact⟨rb (by have:=decide_eq_false (p:=lo<=n) (by omega);simp[this]),rfl⟩
def CE (c n:Int):Int:=if c<0 then (-(c+1)) % n else c % n
theorem TA {c n:Int}(h:c<0):CE c n=(-(c+1)) % n:=by unfold CE;rw[if_pos h]
theorem TB {c n:Int}(h:¬c<0):CE c n=c % n:=by unfold CE;rw[if_neg h]
theorem Zen (c n:Int)(h:1<=n):0<=CE c n:=by unfold CE;split<;>exact Int.emod_nonneg _ (by omega)
theorem Zeo (c n:Int)(h:1<=n):CE c n<n:=by unfold CE;split<;>exact Int.emod_lt_of_pos _ (by omega)
open Go.RowKit
theorem Zam {w w':World}{B:Nat}{e:TypeId}{size n:Nat}{v:Value}{xs:List Value}(h:w.ownsRow B e size v n xs)(d:Below w.heap.size w w'):w'.ownsRow B e size v n xs:=by
 obtain⟨c,a⟩:=h;refine⟨c,?_⟩;rcases a with a | ⟨g,cap,cur,rfl,hg,hh,f⟩
 ·exact Zu a
 ·refine Zj ⟨g,cap,cur,rfl,hg,?_,f⟩
  rw[d.block g (by obtain⟨b,_⟩:=Array.getElem?_eq_some_iff.1 hh;exact b)];exact hh
theorem Zaz {w:World}{B:Nat}{e:TypeId}{size n:Nat}{v:Value}{xs:List Value}(h:w.ownsRow B e size v n xs):∃a c,v= .slice a n c:=by
 rcases h.2 with⟨rfl,rfl⟩ | ⟨g,cap,cur,rfl,_⟩
 ·exact⟨none,0,rfl⟩
 ·exact⟨_,_,rfl⟩
theorem Zac (w:World)(g o a:Nat)(v:Value)(h:o≠a):(w.setCell ⟨g,o,none⟩ v).cell? ⟨g,a,none⟩=w.cell? ⟨g,a,none⟩ :=
 World.cell?_setCell_other _ _ _ _ (fun e=>h (Addr.mk.inj e).2.1)
theorem Zcr {w:World}{B B':Nat}{e:TypeId}{size n:Nat}{v:Value}{xs:List Value}(h:w.ownsRow B e size v n xs)(c:B'<=B):w.ownsRow B' e size v n xs:=by
 obtain⟨b,a⟩:=h;refine⟨b,?_⟩;rcases a with a | ⟨g,cap,cur,f,hg,d⟩
 ·exact Zu a
 ·exact Zj ⟨g,cap,cur,f,Zv c hg,d⟩
theorem Zh {w:World}{B:Nat}{e:TypeId}{size n c:Nat}{xs:List Value}(h:w.ownsRow B e size (.slice none n c) n xs):c=0:=by
 rcases h.2 with⟨a,_⟩ | ⟨g,cap,cur,a,_⟩
 ·simpa using congrArg (fun v=>match v with | Value.slice _ _ c=>c | _=>0) a
 ·simp at a
theorem Zbk (x:World)(cs:Array Value)(t:TypeId)(b:Nat)(a:b=x.heap.size):(x.alloc (.cells cs t)).heap[b]? =some (.cells cs t (0,0)):=by subst a;exact heap_alloc_new x _
theorem Zao (x:World)(o:Obj)(b:Nat)(a:b<x.heap.size):(x.alloc o).heap[b]? =x.heap[b]? :=((Zk x.heap.size x).alloc (Zx _) o).block b a
theorem Zce (b o j:Nat):(⟨b,o,none⟩:Addr).add j=⟨b,o+j,none⟩:=by
 cases j<;>simp[Addr.add]
open Go.RowKit
theorem Hid.mk {p:Prop}(h:p):Hid p:=h
open Go.RowKit
variable {P:Program}
theorem _root_.Go.RowKit.Below.trans' {a b c:World}(h:Below a.heap.size a b)(k:Below b.heap.size b c):Below a.heap.size a c:=h.trans (k.mono h.size)
theorem KC (w:World)(dT l ty elem:TypeId)(k m b o c e:Nat)(a:Addr)(d f:Nat)(cs:List Value)
  (hu:P.underlying dT=some (.slice elem)) (hs:(P.info? elem).map (·.size)=some k) (hm:Nat.min d c=m) (hn:cs.length=m * k)
  (hsrc:∀j v,cs[j]? =some v->w.cell? (a.add j)=some v) (hc:∀j,j<cs.length->(w.cell? ⟨b,o+j,none⟩).isSome=true) (hf:∀j,j<cs.length->w.frozen? ⟨b,o+j,none⟩=false) (h1:∀v∈cs,v.oneCell'=true) :
  (Builtin.copy_ #[dT,l] ty #[.slice (some ⟨b,o,none⟩) c e, .slice (some a) d f]).run P w= .ok (goInt m) (w.setCells b o cs):=by
 have hl:=run_loadCells_list (P:=P) w a cs hsrc;have h:=run_storeCells_cells (P:=P) b o cs 0 w (by simpa using hc) (by simpa using hf) h1
 cases g:P.info? elem with
 | none=>simp[g] at hs
 | some i =>
  have hi:i.size=k:=by simpa[g] using hs
  simp[Builtin.copy_,run_underlying hu,Builtin.lenOf,Builtin.firstCells,sizeOf,typeInfo,g,hi,hm,<-hn,hl,h]
theorem Zc0 (w:World)(dT j ty elem:TypeId)(k:Nat)(d a:Option Addr)(b e c f:Nat)(hu:P.underlying dT=some (.slice elem))(h:(P.info? elem).map (·.size)=some k)(hn:Nat.min c b=0) :
  (Builtin.copy_ #[dT,j] ty #[.slice d b e, .slice a c f]).run P w= .ok (goInt 0) w:=by
 cases g:P.info? elem with
 | none=>simp[g] at h
 | some i =>
  have hl:∀(x:Addr),(loadCells x 0).run P w= .ok #[] w:=fun x=>by simpa using run_loadCells_list (P:=P) w x [] (by simp)
  cases d<;>cases a<;>simp[Builtin.copy_,run_underlying hu,Builtin.lenOf,Builtin.firstCells,sizeOf,typeInfo,g,hn,storeCells,hl]
theorem Zb2 (z:Array Value)(n:Nat):(Builtin.zeroCells z n).toList=(List.replicate n z.toList).flatten:=by
 apply List.ext_getElem?
 intro i;unfold Builtin.zeroCells;by_cases c:z.size=0
 ·have d:z.toList=[]:=by apply List.eq_nil_of_length_eq_zero;simpa using c
  rw[d];simp[c]
 ·rw[Array.toList_map,List.getElem?_map,Array.toList_range]
  by_cases hi:i<n * z.size
  ·rw[List.getElem?_range hi]
   simp only[Option.map_some];have b:i % z.size<z.size:=Nat.mod_lt _ (by omega)
   have:∀n i,i<n * z.size->(List.replicate n z.toList).flatten[i]? =z.toList[i % z.size]? :=by
    intro n
    induction n with
    | zero=>intro i h;simp at h
    | succ n e =>
     intro i h;rw[List.replicate_succ,List.flatten_cons];by_cases a:i<z.size
     ·rw[List.getElem?_append_left (by simpa using a),Nat.mod_eq_of_lt a]
     ·rw[List.getElem?_append_right (by simp;omega),Array.length_toList,e (i - z.size) (by rw[Nat.add_mul] at h;omega)]
      congr 1
      conv=>rhs;rw[show i=(i - z.size)+z.size by omega,Nat.add_mod_right]
   rw[this n i hi,Array.getElem?_toList,Array.getElem?_eq_getElem b,getElem!_pos z _ b]
  ·rw[List.getElem?_eq_none (by simpa using hi)]
   simp only[Option.map_none]
   symm
   apply List.getElem?_eq_none
   rw[List.length_flatten,List.map_replicate,List.sum_replicate_nat,Array.length_toList];omega
theorem Fg (w:World)(t e ty:TypeId)(z:Value)(h:P.underlying t=some (.slice e))(i:∀w,(zeroValue e).run P w= .ok z w)(n:Nat)(a:List Value)(k:(List.replicate n z.cells.toList).flatten=a)(g:∀v∈a,v.oneCell'=true)(b o c:Nat)(hn:0<n)
  (hc:∀j,j<a.length->(w.cell? ⟨b,o+j,none⟩).isSome=true) (hf:∀j,j<a.length->w.frozen? ⟨b,o+j,none⟩=false) :
  (Builtin.clear_ #[t] ty #[.slice (some ⟨b,o,none⟩) n c]).run P w= .ok (.tuple #[]) (w.setCells b o a):=by
 have d:=run_storeCells_cells (P:=P) b o a 0 w (by simpa using hc) (by simpa using hf) g;have f:(Builtin.zeroCells z.cells n).toList=a:=by rw[Zb2];exact k
 simp only[Nat.add_zero] at d;obtain⟨m,rfl⟩:∃m,n=m+1:=⟨n - 1,by omega⟩;simp[Builtin.clear_,run_underlying h,i,f,d]
structure RF (w w':World)(P:Nat)(ob:Option Nat)(lo hi:Nat):Prop where
 os:w'.os=w.os
 tape:w'.tape=w.tape
 output:w'.output=w.output
 size:w.heap.size<=w'.heap.size
 block:∀k,k<w.heap.size->k≠P->some k≠ob->w'.heap[k]? =w.heap[k]?
 off:P<w.heap.size->∀o,o<lo\/hi<=o->w'.cell? ⟨P,o,none⟩=w.cell? ⟨P,o,none⟩
 AE:P<w.heap.size->∀o,w'.frozen? ⟨P,o,none⟩=w.frozen? ⟨P,o,none⟩
theorem RF.Ae {w w':World}(P:Nat)(ob:Option Nat)(lo hi:Nat)(h:Below w.heap.size w w'):RF w w' P ob lo hi:=⟨h.os,h.tape,h.output,h.size,fun k c _ _=>h.block k c,fun b o _=>World.cell?_of_block (a:=⟨P,o,none⟩) (h.block P b),fun b o=>World.frozen?_of_block (a:=⟨P,o,none⟩) (h.block P b)⟩
theorem RF.trans {x y z:World}{P:Nat}{ob b:Option Nat}{lo hi:Nat}(h:RF x y P ob lo hi)(g:RF y z P b lo hi)(i:∀k,b=some k->ob=some k\/x.heap.size<=k):RF x z P ob lo hi:=by
 refine⟨g.os.trans h.os,g.tape.trans h.tape,g.output.trans h.output,Zv h.size g.size,fun k d a f=> ?_,fun a o hl=>(g.off (Zy a h.size) o hl).trans (h.off a o hl),fun a o=>(g.AE (Zy a h.size) o).trans (h.AE a o)⟩;refine (g.block k (Zy d h.size) a (fun e=> ?_)).trans (h.block k d a f);rcases i k e.symm with c | c
 ·exact f c.symm
 ·omega
theorem RF.Bt (w:World)(P o:Nat)(ob:Option Nat)(v:Value){lo hi:Nat}(h:lo<=o/\o<hi):RF w (w.setCell ⟨P,o,none⟩ v) P ob lo hi :=
 ⟨rfl,rfl,rfl,by simp[World.setCell],fun k _ a _=>Zl w ⟨P,o,none⟩ v k (by simpa using a),fun _ b c=>World.cell?_setCell_other _ _ _ _ (fun e=>by have:=(Addr.mk.inj e).2.1;omega),fun _ b=>by rw[World.frozen?_setCell]⟩
structure Bq {α:Type}(ys:List α)(first:Nat)(xs:List α):Prop where
 Bs:xs.length<=ys.length
 Ec:first<ys.length\/(first=0/\ys=[])
 at_:∀i,i<xs.length->ys[(first+i) % ys.length]? =xs[i]?
theorem Bq.nil {α:Type}:Bq ([]:List α) 0 []:=⟨Zx _,Zj ⟨rfl,rfl⟩,fun i h=>by simp at h⟩
theorem Bq.list {α:Type}{a xs:List α}{first:Nat}(h:Bq a first xs):xs=(a.drop first).take xs.length++a.take (xs.length - (a.length - first)):=by
 have hf:=h.Bs
 apply List.ext_getElem?
 intro i;rcases h.Ec with b | ⟨b,c⟩
 ·by_cases hi:i<xs.length
  ·rw[<-h.at_ i hi]
   by_cases d:i<a.length - first
   ·rw[List.getElem?_append_left (by rw[List.length_take,List.length_drop];omega),List.getElem?_take_of_lt hi,List.getElem?_drop,Nat.mod_eq_of_lt (by omega)]
   ·rw[List.getElem?_append_right (by rw[List.length_take,List.length_drop];omega),List.length_take,List.length_drop,Nat.min_eq_right (by omega),List.getElem?_take_of_lt (by omega)]
    congr 1
    rw[Nat.mod_eq_sub_mod (by omega),Nat.mod_eq_of_lt (by omega)];omega
  ·rw[List.getElem?_eq_none (by omega),List.getElem?_eq_none]
   rw[ZX,List.length_take,List.length_drop,List.length_take];omega
 ·subst b c
  simp only[List.length_nil,Nat.le_zero_eq,List.length_eq_zero_iff] at hf;subst hf;simp
theorem Bq.push {α:Type}{b xs:List α}{first:Nat}(h:Bq b first xs)(l:xs.length<b.length)(x:α):Bq (b.set ((first+xs.length) % b.length) x) first (xs++[x]):=by
 have hf:first<b.length:=by
  rcases h.Ec with f | ⟨_,g⟩
  ·exact f
  ·subst g;simp at l
 refine⟨by simp;omega,Zu (by simpa using hf),fun i hi=> ?_⟩;rw[ZX,List.length_singleton] at hi;rw[List.length_set];by_cases e:i=xs.length
 ·subst e
  rw[List.getElem?_set_self (Nat.mod_lt _ (by omega)),List.getElem?_append_right (Zx _),Nat.sub_self]
  rfl
 ·have d:(first+xs.length) % b.length≠(first+i) % b.length:=by
   intro c;have hn:0<b.length:=by omega
   by_cases j:first+i<b.length
   ·rw[Nat.mod_eq_of_lt j] at c
    by_cases k:first+xs.length<b.length
    ·rw[Nat.mod_eq_of_lt k] at c;omega
    ·rw[Nat.mod_eq_sub_mod (by omega),Nat.mod_eq_of_lt (by omega)] at c;omega
   ·rw[Nat.mod_eq_sub_mod (a:=first+i) (by omega),Nat.mod_eq_of_lt (a:=first+i - b.length) (by omega),Nat.mod_eq_sub_mod (by omega),Nat.mod_eq_of_lt (by omega)] at c
    omega
  rw[List.getElem?_set_ne d,List.getElem?_append_left (by omega)];exact h.at_ i (by omega)
theorem Bq.pop {α:Type}{a xs:List α}{first:Nat}{x:α}(h:Bq a first (x::xs))(z:α):a[first]? =some x/\Bq (a.set first z) ((first+1) % a.length) xs:=by
 have hlen:=h.Bs;simp only[List.length_cons] at hlen
 have hf:first<a.length:=by
  rcases h.Ec with c | ⟨_,d⟩
  ·exact c
  ·subst d;simp at hlen
 refine⟨?_,by simp;omega,Zu (by rw[List.length_set];exact Nat.mod_lt _ (by omega)),fun i hi=> ?_⟩
 ·have:=h.at_ 0 (by simp)
  rw[Nat.add_zero,Nat.mod_eq_of_lt hf] at this;simpa using this
 ·rw[List.length_set,Nat.mod_add_mod]
  have:=h.at_ (i+1) (by simp;omega);rw[show first+1+i=first+(i+1) by omega]
  have b:first≠(first+(i+1)) % a.length:=by
   by_cases e:first+(i+1)<a.length
   ·rw[Nat.mod_eq_of_lt e];omega
   ·rw[Nat.mod_eq_sub_mod (by omega),Nat.mod_eq_of_lt (by omega)];omega
  rw[List.getElem?_set_ne b,this];simp
theorem Bq.MZ {α:Type}(xs b:List α):Bq (xs++b) 0 xs:=by
 refine⟨by simp,?_,fun i hi=> ?_⟩
 ·cases h:xs++b with
  | nil=>exact Zj ⟨rfl,rfl⟩
  | cons a l=>exact Zu (by simp)
 ·rw[Nat.zero_add,Nat.mod_eq_of_lt (by simp;omega),List.getElem?_append_left hi]
theorem Zaa {w:World}{k:Nat}{o:Obj}(h:w.heap[k]? =some o):k<w.heap.size:=(Array.getElem?_eq_some_iff.1 h).1
open Go.RowKit
theorem Ok {α:Type}{f:α->List Value}{k:Nat}(hf:∀x,(f x).length=k)(l:List α):(l.flatMap f).length=l.length * k:=by
 induction l with
 | nil=>simp
 | cons a l b=>rw[List.flatMap_cons,ZX,b,hf,List.length_cons,Nat.add_mul];omega
theorem RC {α:Type}{z:α}{f:α->List Value}{k:Nat}(hf:∀x,(f x).length=k)(l:List α){i j:Nat}(hi:i<l.length)(c:j<k):(l.flatMap f)[i * k+j]? =(f (l.getD i z))[j]? :=by
 induction l generalizing i with
 | nil=>simp at hi
 | cons a l b =>
  rw[List.flatMap_cons]
  cases i with
  | zero=>rw[List.getElem?_append_left (by rw[hf];omega)];simp
  | succ i =>
   rw[List.getElem?_append_right (by rw[hf,Nat.add_mul];omega),hf];rw[show (i+1) * k+j - k=i * k+j by rw[Nat.add_mul];omega,b (by simpa using hi)];simp
theorem Ve {α:Type}{z:α}{f:α->List Value}{k:Nat}(hf:∀x,(f x).length=k)(l:List α){i j:Nat}(hi:i<l.length)(b:j<k){g:α->α}{v:Value}(hg:f (g (l.getD i z))=(f (l.getD i z)).set j v) :
  (l.flatMap f).set (i * k+j) v=(l.modify i g).flatMap f:=by
 induction l generalizing i with
 | nil=>simp at hi
 | cons a l c =>
  cases i with
  | zero =>
   simp only[List.getD_cons_zero] at hg;rw[List.modify_zero_cons,List.flatMap_cons,List.flatMap_cons,hg,Nat.zero_mul,Nat.zero_add,List.set_append_left _ _ (by rw[hf];exact b)]
  | succ i =>
   simp only[List.getD_cons_succ] at hg;rw[List.modify_succ_cons,List.flatMap_cons,List.flatMap_cons,List.set_append_right _ _ (by rw[hf,Nat.add_mul];omega),hf];rw[show (i+1) * k+j - k=i * k+j by rw[Nat.add_mul];omega,c (by simpa using hi) hg]
abbrev By {α:Type}(w:World)(B:Nat)(e:TypeId)(k:Nat)(f:α->List Value)(a:Option Addr)(c:Nat)(l:List α):Prop:=w.ownsRow B e k (.slice a l.length c) l.length (l.flatMap f)
theorem Zdt {α:Type}{w:World}{B:Nat}{e:TypeId}{k:Nat}{f:α->List Value}{a:Option Addr}{c:Nat}{l:List α}(h:By w B e k f a c l)(hn:0<l.length) :
  ∃g cur,a=some ⟨g,0,none⟩/\B<=g/\g<w.heap.size/\l.length<=c/\c<=maxLen/\w.heap[g]? =some (.cells cur e (0,0)):=by
 rcases h.2 with⟨_,b⟩ | ⟨g,cap,cur,b,hg,hh,d,i,n,o⟩
 ·omega
 ·obtain⟨j,_,m⟩:a=some ⟨g,0,none⟩/\l.length=l.length/\c=cap:=by simpa using b
  subst j m;exact⟨g,cur,rfl,hg,(Array.getElem?_eq_some_iff.1 hh).1,d,i,hh⟩
theorem DS {α:Type}{z:α}{w:World}{B:Nat}{e:TypeId}{k:Nat}{f:α->List Value}{g c:Nat}{l:List α}(h:By w B e k f (some ⟨g,0,none⟩) c l)(hf:∀x,(f x).length=k){i j:Nat}(hi:i<l.length)(a:j<k) :
  w.cell? ⟨g,i * k+j,none⟩=(f (l.getD i z))[j]? :=by
 rw[h.cellAt (i * k+j) (by have:=Nat.mul_le_mul_right k (show i+1<=l.length by omega);rw[Nat.add_mul] at this;omega),RC hf l hi a]
theorem Gr {α:Type}{w:World}{B:Nat}{e:TypeId}{k:Nat}{f:α->List Value}{g c:Nat}{l:List α}(h:By w B e k f (some ⟨g,0,none⟩) c l)(j:Nat):w.frozen? ⟨g,j,none⟩=false:=h.frozenAt j
theorem ZJ {α:Type}{z:α}{w:World}{B:Nat}{e:TypeId}{k:Nat}{f:α->List Value}{g c:Nat}{l:List α}(h:By w B e k f (some ⟨g,0,none⟩) c l)(hf:∀x,(f x).length=k){i j:Nat}(hi:i<l.length)(a:j<k){t:α->α}{v:Value}(b:f (t (l.getD i z))=(f (l.getD i z)).set j v) :
  By (w.setCell ⟨g,i * k+j,none⟩ v) B e k f (some ⟨g,0,none⟩) c (l.modify i t):=by
 have:=(h.stored (i * k+j) v).1;rw[Ve hf l hi a b] at this;unfold By;rw[List.length_modify];exact this
theorem Zae {w:World}{B:Nat}{e t:TypeId}{size n:Nat}{v:Value}{xs:List Value}(h:w.ownsRow B e size v n xs){g o:Nat}{cur:Array Value}{fr:Nat×Nat}(hg:w.heap[g]? =some (.cells cur t fr))(he:e≠t)(u:Value):(w.setCell ⟨g,o,none⟩ u).ownsRow B e size v n xs:=by
 obtain⟨c,a⟩:=h;refine⟨c,?_⟩;rcases a with a | ⟨g2,cap,c2,f,d,hh,r⟩
 ·exact Zu a
 ·refine Zj ⟨g2,cap,c2,f,d,?_,r⟩
  rw[Zl _ _ _ _ ?_]
  ·exact hh
  ·intro b
   subst b;rw[hg] at hh;simp only[Option.some.injEq,Obj.cells.injEq] at hh;exact he hh.2.1.symm
theorem Zed {w:World}{B:Nat}{e:TypeId}{size n g2 c:Nat}{xs:List Value}(h:w.ownsRow B e size (.slice (some ⟨g2,0,none⟩) n c) n xs){g o:Nat}(he:g2≠g)(u:Value):(w.setCell ⟨g,o,none⟩ u).ownsRow B e size (.slice (some ⟨g2,0,none⟩) n c) n xs:=by
 refine h.kept (row:=some g) ⟨rfl,rfl,rfl,by simp[World.setCell],fun k _ a=>Zl _ _ _ _ (fun x=>a (by rw[x]))⟩ (Zj ?_);simp[Value.ownBlock,he]
theorem Zai {w:World}{g b:Nat}{c i:Array Value}{t d:TypeId}{f j:Nat×Nat}(h:w.heap[g]? =some (.cells c t f))(a:w.heap[b]? =some (.cells i d j))(k:t≠d):g≠b:=by
 intro e;subst e;rw[h] at a;simp only[Option.some.injEq,Obj.cells.injEq] at a;exact k a.2.1
theorem Zab {w:World}{g o:Nat}{c:Array Value}{t:TypeId}{f:Nat×Nat}(h:w.heap[g]? =some (.cells c t f))(v:Value):(w.setCell ⟨g,o,none⟩ v).heap[g]? =some (.cells (c.setIfInBounds o v) t f):=by
 simp[World.setCell,Array.getElem?_modify,h]
theorem getD_modify {α:Type}{z:α}(l:List α)(i j:Nat)(f:α->α)(a:j<l.length):(l.modify i f).getD j z=if i=j then f (l.getD j z) else l.getD j z:=by
 simp only[ZQ,List.getElem?_modify,ZZ a,Option.getD_some]
 split<;>rfl
theorem JT (g:Nat)(e:TypeId):∀(b:List Value) (o:Nat) (w:World) (cur:Array Value),w.heap[g]? =some (.cells cur e (0,0))->o+b.length<=cur.size->∃a,(w.setCells g o b).heap[g]? =some (.cells a e (0,0))/\a.size=cur.size/\a.toList=cur.toList.take o++b++cur.toList.drop (o+b.length)
 | [],o,w,cur,h,_=>⟨cur,h,rfl,by simp⟩
 | v::r,o,w,cur,h,hl=>by
  have c:(w.setCell ⟨g,o,none⟩ v).heap[g]? =some (.cells (cur.setIfInBounds o v) e (0,0)):=by
   simp[World.setCell,Array.getElem?_modify,h]
  obtain⟨a,d,f,i⟩:=JT g e r (o+1) (w.setCell ⟨g,o,none⟩ v) (cur.setIfInBounds o v) c (by simp at hl ⊢;omega);refine⟨a,d,by simpa using f,?_⟩;simp only[List.length_cons] at hl ⊢;have j:o<cur.toList.length:=by simp;omega
  rw[i,Array.toList_setIfInBounds,List.take_set,List.take_add_one,ZZ j,Option.toList_some,List.set_append_right _ _ (by simp;omega),List.drop_set_of_lt (by omega)];have:o - (List.take o cur.toList).length=0:=by simp;omega
  rw[this,show o+(r.length+1)=o+1+r.length by omega];simp
theorem QV (w:World)(g o:Nat)(a:List Value):(w.setCells g o a).heap.size=w.heap.size/\(w.setCells g o a).os=w.os/\(w.setCells g o a).tape=w.tape/\(w.setCells g o a).output=w.output:=by
 induction a generalizing o w with
 | nil=>exact⟨rfl,rfl,rfl,rfl⟩
 | cons v r f =>
  obtain⟨b,c,d,e⟩:=f (w.setCell ⟨g,o,none⟩ v) (o+1);rw[World.setCells];exact⟨by rw[b];simp[World.setCell],c,d,e⟩
theorem Pk (g k:Nat)(a:k≠g):∀(b:List Value) (o:Nat) (w:World),(w.setCells g o b).heap[k]? =w.heap[k]?
 | [],_,_=>rfl
 | v::r,o,w=>by rw[World.setCells,Pk g k a r];exact Zl w ⟨g,o,none⟩ v k a
theorem LD {α:Type}{f:α->List Value}{k:Nat}(hf:∀x,(f x).length=k)(l:List α)(i:Nat):(l.flatMap f).take (i * k)=(l.take i).flatMap f:=by
 induction l generalizing i with
 | nil=>simp
 | cons a l b =>
  cases i with
  | zero=>simp
  | succ i=>rw[List.flatMap_cons,List.take_succ_cons,List.flatMap_cons,List.take_append,hf,List.take_of_length_le (by rw[hf,Nat.add_mul];omega),show (i+1) * k - k=i * k by rw[Nat.add_mul];omega,b]
theorem SP {α:Type}{f:α->List Value}{k:Nat}(hf:∀x,(f x).length=k)(l:List α)(i:Nat):(l.flatMap f).drop (i * k)=(l.drop i).flatMap f:=by
 induction l generalizing i with
 | nil=>simp
 | cons a l b =>
  cases i with
  | zero=>simp
  | succ i=>rw[List.flatMap_cons,List.drop_succ_cons,List.drop_append,hf,List.drop_of_length_le (by rw[hf,Nat.add_mul];omega),show (i+1) * k - k=i * k by rw[Nat.add_mul];omega,b];rfl
theorem KB {α:Type}{z:α}{w:World}{B:Nat}{e:TypeId}{k:Nat}{f:α->List Value}{g c:Nat}{l:List α}(h:By w B e k f (some ⟨g,0,none⟩) c l)(hf:∀x,(f x).length=k){i:Nat}(hi:i<l.length)(x:α) :
  By (w.setCells g (i * k) (f x)) B e k f (some ⟨g,0,none⟩) c (l.set i x):=by
 rcases h.2 with⟨b,_⟩ | ⟨o,cap,cur,b,hg,hh,m,p,t,q⟩
 ·cases b
 ·obtain⟨rfl,rfl⟩:g=o/\c=cap:=by simpa using b
  have s:i * k+k<=l.length * k:=by have:=Nat.mul_le_mul_right k (show i+1<=l.length by omega);rw[Nat.add_mul] at this;omega
  have r:l.length * k<=c * k:=Nat.mul_le_mul_right _ m;obtain⟨a,k1,k2,k3⟩:=JT g e (f x) (i * k) w cur hh (by rw[hf];omega);unfold By;rw[List.length_set];refine⟨by rw[Ok hf,List.length_set],Zj ⟨g,c,a,rfl,hg,k1,m,p,by omega,?_⟩⟩
  have e0:(l.set i x).flatMap f=(l.flatMap f).take (i * k)++f x++(l.flatMap f).drop (i * k+k):=by
   rw[LD hf,show i * k+k=(i+1) * k by rw[Nat.add_mul];omega,SP hf,List.set_eq_take_append_cons_drop,if_pos hi,List.flatMap_append,List.flatMap_cons,List.append_assoc]
  rw[e0,<-q,k3,hf];have n:(cur.toList.take (l.length * k)).take (i * k)=cur.toList.take (i * k):=by rw[List.take_take,Nat.min_eq_left (by omega)]
  have d:i * k<=cur.size:=by omega
  have j:(cur.toList.take (i * k)++f x).length=i * k+k:=by rw[ZX,List.length_take,Array.length_toList,hf,Nat.min_eq_left d]
  rw[n,List.take_append,List.take_of_length_le (by rw[j];omega),j,List.drop_take]
theorem MP {α:Type}(l:List α)(i:Nat)(x:α):l.modify i (fun _=>x)=l.set i x:=by
 apply List.ext_getElem?
 intro j;rw[List.getElem?_modify,List.getElem?_set];by_cases e:i=j
 ·subst e
  simp only[if_true];by_cases h:i<l.length
  ·rw[ZZ h,if_pos h];rfl
  ·rw[List.getElem?_eq_none (by omega),if_neg h];rfl
 ·simp only[if_neg e]
  cases l[j]? <;>rfl
open Go.RowKit
attribute [local go_sem ↓] Go.wp_at_zero Go.wp_at_succ
def AY (p:AZ):List Value:=[.int .u64 p.run, .int .i64 p.node]
theorem Zbp (p:AZ):(AY p).length=2:=rfl
structure FV (w:World)(P B:Nat)(a:Option Addr)(n c first:Nat)(ys xs:List AZ):Prop where
 c0:w.cell? ⟨P,8,none⟩=some (.slice a n c)
 c1:w.cell? ⟨P,9,none⟩=some (.int .i64 first)
 c2:w.cell? ⟨P,10,none⟩=some (.int .i64 xs.length)
 fz:∀o,w.frozen? ⟨P,o,none⟩=false
 row:w.ownsRow B 274 2 (.slice a n c) n (ys.flatMap AY)
 len:ys.length=n
 ring:Bq ys first xs
 Bs:n<=1000
 pb:P<B
 bs:B<=w.heap.size
theorem RR (l:List AZ):∀u∈l.flatMap AY,u.oneCell'=true:=by
 intro u hu;obtain⟨x,_,a⟩:=List.mem_flatMap.1 hu;simp only[AY,List.mem_cons,List.not_mem_nil,or_false] at a
 first | (rcases a with rfl | rfl<;>rfl) | (rcases a with rfl;rfl)
theorem Zaq (l:List AZ):(l.flatMap AY).length=l.length * 2:=by
 induction l with
 | nil=>rfl
 | cons a l b=>rw[List.flatMap_cons,ZX,b,Zbp,List.length_cons];omega
theorem DP (l:List AZ)(i:Nat):(l.flatMap AY).take (i * 2)=(l.take i).flatMap AY:=by
 induction l generalizing i with
 | nil=>simp
 | cons a l b =>
  cases i with
  | zero=>simp
  | succ i=>rw[List.flatMap_cons,List.take_succ_cons,List.flatMap_cons,List.take_append,Zbp,List.take_of_length_le (by rw[Zbp];omega),show (i+1) * 2 - 2=i * 2 by omega,b]
theorem Fb (l:List AZ)(i:Nat):(l.flatMap AY).drop (i * 2)=(l.drop i).flatMap AY:=by
 induction l generalizing i with
 | nil=>simp
 | cons a l b =>
  cases i with
  | zero=>simp
  | succ i=>rw[List.flatMap_cons,List.drop_succ_cons,List.drop_append,Zbp,List.drop_of_length_le (by rw[Zbp];omega),show (i+1) * 2 - 2=i * 2 by omega,b];rfl
theorem LY (n:Nat):(List.replicate n (.agg #[.int .u64 0, .int .i64 0]:Value).cells.toList).flatten=(List.replicate n (⟨0,0⟩:AZ)).flatMap AY:=by
 induction n with
 | zero=>rfl
 | succ n a=>rw[List.replicate_succ,List.flatten_cons,List.replicate_succ,List.flatMap_cons,a];rfl
theorem infoTR:(prog.info? 274).map (fun i=>(i.zero,i.size,i.bytes))=some (some (.agg #[.int .u64 0, .int .i64 0]),2,16):=by kernel_rfl
theorem zeroTR (w:World):(zeroValue 274).run prog w= .ok (.agg #[.int .u64 0, .int .i64 0]) w:=by kernel_rfl
theorem KM:(prog.info? 274).map (·.size)=some 2:=by kernel_rfl
theorem VP (w:World)(n:Nat)(hn:n<=100000):(Instr.makeSlice 152 (.int .i64 (n:Int)) (.int .i64 (n:Int))).run prog w= .ok (.slice (some ⟨w.heap.size,0,none⟩) n n) (w.alloc (.cells (madeCells (.agg #[.int .u64 0, .int .i64 0]:Value).cells (n * 2)) 274)):=by
 obtain⟨i,hi,c,a,b⟩:=info_parts infoTR;have:=run_makeSlice (P:=prog) w 152 274 i _ underlying152 hi c .i64 .i64 n n (by omega) (by omega) (by rw[a];simp;omega) (by rw[b];omega) (by omega);rw[a] at this;simpa using this
theorem EL (w:World)(P n:Nat)(h:w.cell? ⟨P,10,none⟩=some (.int .i64 n)) :
  Calls prog 199 #[.pointer (some ⟨P,8,none⟩)] w fun e w'=>e= .returned (.bool (decide (n=0)))/\w'=w:=by
 go_enter func199,ntmps199
 go_wp2_with fail
 go_ret
 exact⟨by first | rfl | (congr 2;by_cases e:n=0<;>simp[e]),rfl⟩
def AF (x:Int):List Value:=[.int .u64 x]
theorem Zbq (x:Int):(AF x).length=1:=rfl
structure Gw (w:World)(P B:Nat)(a:Option Addr)(n c first:Nat)(ys xs:List Int):Prop where
 c0:w.cell? ⟨P,5,none⟩=some (.slice a n c)
 c1:w.cell? ⟨P,6,none⟩=some (.int .i64 first)
 c2:w.cell? ⟨P,7,none⟩=some (.int .i64 xs.length)
 fz:∀o,w.frozen? ⟨P,o,none⟩=false
 row:w.ownsRow B 27 1 (.slice a n c) n (ys.flatMap AF)
 len:ys.length=n
 ring:Bq ys first xs
 Bs:n<=1000
 pb:P<B
 bs:B<=w.heap.size
theorem Pw (l:List Int):∀u∈l.flatMap AF,u.oneCell'=true:=by
 intro u hu;obtain⟨x,_,a⟩:=List.mem_flatMap.1 hu;simp only[AF,List.mem_cons,List.not_mem_nil,or_false] at a
 first | (rcases a with rfl | rfl<;>rfl) | (rcases a with rfl;rfl)
theorem Zav (l:List Int):(l.flatMap AF).length=l.length * 1:=by
 induction l with
 | nil=>rfl
 | cons a l b=>rw[List.flatMap_cons,ZX,b,Zbq,List.length_cons];omega
theorem FA (l:List Int)(i:Nat):(l.flatMap AF).take (i * 1)=(l.take i).flatMap AF:=by
 induction l generalizing i with
 | nil=>simp
 | cons a l b =>
  cases i with
  | zero=>simp
  | succ i=>rw[List.flatMap_cons,List.take_succ_cons,List.flatMap_cons,List.take_append,Zbq,List.take_of_length_le (by rw[Zbq];omega),show (i+1) * 1 - 1=i * 1 by omega,b]
theorem Fz (l:List Int)(i:Nat):(l.flatMap AF).drop (i * 1)=(l.drop i).flatMap AF:=by
 induction l generalizing i with
 | nil=>simp
 | cons a l b =>
  cases i with
  | zero=>simp
  | succ i=>rw[List.flatMap_cons,List.drop_succ_cons,List.drop_append,Zbq,List.drop_of_length_le (by rw[Zbq];omega),show (i+1) * 1 - 1=i * 1 by omega,b];rfl
theorem KT (n:Nat):(List.replicate n (.int .u64 0:Value).cells.toList).flatten=(List.replicate n (0:Int)).flatMap AF:=by
 induction n with
 | zero=>rfl
 | succ n a=>rw[List.replicate_succ,List.flatten_cons,List.replicate_succ,List.flatMap_cons,a];rfl
theorem infoTU:(prog.info? 27).map (fun i=>(i.zero,i.size,i.bytes))=some (some (.int .u64 0),1,8):=by kernel_rfl
theorem zeroTU (w:World):(zeroValue 27).run prog w= .ok (.int .u64 0) w:=by kernel_rfl
theorem QX:(prog.info? 27).map (·.size)=some 1:=by kernel_rfl
theorem VQ (w:World)(n:Nat)(hn:n<=100000):(Instr.makeSlice 75 (.int .i64 (n:Int)) (.int .i64 (n:Int))).run prog w= .ok (.slice (some ⟨w.heap.size,0,none⟩) n n) (w.alloc (.cells (madeCells (.int .u64 0:Value).cells (n * 1)) 27)):=by
 obtain⟨i,hi,c,a,b⟩:=info_parts infoTU;have:=run_makeSlice (P:=prog) w 75 27 i _ underlying75 hi c .i64 .i64 n n (by omega) (by omega) (by rw[a];simp;omega) (by rw[b];omega) (by omega);rw[a] at this;simpa using this
theorem EM (w:World)(P n:Nat)(h:w.cell? ⟨P,7,none⟩=some (.int .i64 n)) :
  Calls prog 195 #[.pointer (some ⟨P,5,none⟩)] w fun e w'=>e= .returned (.bool (decide (n=0)))/\w'=w:=by
 go_enter func195,ntmps195
 go_wp2_with fail
 go_ret
 exact⟨by first | rfl | (congr 2;by_cases e:n=0<;>simp[e]),rfl⟩
end Go.Proofs.YtgdcjccbdmcebaaGreatDoor
