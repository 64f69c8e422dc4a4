import Derived.Test.YtgdcjccbdmcebabGreatDoorM01
import Derived.Lib.SliceRun
import Derived.Laws.IdiomCopy
import Derived.Laws.MakeOwn
import Derived.Laws.OwnMore
import Derived.Deep.RegionHeld3
import Derived.Deep.RegionLaw
import Derived.Deep.DrawnRows
import Derived.Deep.AppendLies
import Derived.Deep.CutRange
set_option linter.unusedSimpArgs false
set_option linter.unusedVariables false
namespace Go.Proofs.YtgdcjccbdmcebabGreatDoor
open Go.RowKit
variable {P:Program}
theorem _root_.Go.RowKit.Below.trans' {a b c:World}(h:Below a.heap.size a b)(k:Below b.heap.size b c):Below a.heap.size a c:=h.trans (k.mono h.size)
theorem run_copy_k (w:World)(dT sT ty elem:TypeId)(k m b o dLen dCap:Nat)(a:Addr)(sLen sCap:Nat)(cs:List Value)
  (hu:P.underlying dT=some (.slice elem)) (hs:(P.info? elem).map (·.size)=some k) (hm:Nat.min sLen dLen=m) (hn:cs.length=m * k)
  (hsrc:∀j v,cs[j]? =some v->w.cell? (a.add j)=some v) (hc:∀j,j<cs.length->(w.cell? ⟨b,o+j,none⟩).isSome=true) (hf:∀j,j<cs.length->w.frozen? ⟨b,o+j,none⟩=false) (h1:∀v∈cs,v.oneCell'=true) :
  (Builtin.copy_ #[dT,sT] ty #[.slice (some ⟨b,o,none⟩) dLen dCap, .slice (some a) sLen sCap]).run P w= .ok (goInt m) (w.setCells b o cs):=by
 have hl:=run_loadCells_list (P:=P) w a cs hsrc
 have hst:=run_storeCells_cells (P:=P) b o cs 0 w (by simpa using hc) (by simpa using hf) h1
 cases hq:P.info? elem with
 | none=>simp [hq] at hs
 | some i =>
  have hi:i.size=k:=by simpa [hq] using hs
  simp [Builtin.copy_,run_underlying hu,Builtin.lenOf,Builtin.firstCells,sizeOf,typeInfo,hq,hi,hm,<-hn,hl,hst]
theorem Zcs (w:World)(dT sT ty elem:TypeId)(k:Nat)(d a:Option Addr)(dLen dCap sLen sCap:Nat)(hu:P.underlying dT=some (.slice elem))(hs:(P.info? elem).map (·.size)=some k)(hn:Nat.min sLen dLen=0) :
  (Builtin.copy_ #[dT,sT] ty #[.slice d dLen dCap, .slice a sLen sCap]).run P w= .ok (goInt 0) w:=by
 cases hq:P.info? elem with
 | none=>simp [hq] at hs
 | some i =>
  have hl:∀(x:Addr),(loadCells x 0).run P w= .ok #[] w:=fun x=>by simpa using run_loadCells_list (P:=P) w x [] (by simp)
  cases d<;>cases a<;>simp [Builtin.copy_,run_underlying hu,Builtin.lenOf,Builtin.firstCells,sizeOf,typeInfo,hq,hn,storeCells,hl]
theorem Zbw (z:Array Value)(n:Nat):(Builtin.zeroCells z n).toList=(List.replicate n z.toList).flatten:=by
 apply List.ext_getElem?
 intro i
 unfold Builtin.zeroCells
 by_cases hz:z.size=0
 ·have h0:z.toList=[]:=by apply List.eq_nil_of_length_eq_zero;simpa using hz
  rw [h0]
  simp [hz]
 ·rw [Array.toList_map,List.getElem?_map,Array.toList_range]
  by_cases hi:i<n * z.size
  ·rw [List.getElem?_range hi]
   simp only [Option.map_some]
   have hk:i % z.size<z.size:=Nat.mod_lt _ (by omega)
   have:∀n i,i<n * z.size->(List.replicate n z.toList).flatten[i]? =z.toList[i % z.size]? :=by
    intro n
    induction n with
    | zero=>intro i h;simp at h
    | succ n ih =>
     intro i h
     rw [List.replicate_succ,List.flatten_cons]
     by_cases h2:i<z.size
     ·rw [List.getElem?_append_left (by simpa using h2),Nat.mod_eq_of_lt h2]
     ·rw [List.getElem?_append_right (by simp;omega),Array.length_toList,ih (i - z.size) (by rw [Nat.add_mul] at h;omega)]
      congr 1
      conv=>rhs;rw [show i=(i - z.size)+z.size by omega,Nat.add_mod_right]
   rw [this n i hi,Array.getElem?_toList,Array.getElem?_eq_getElem hk,getElem!_pos z _ hk]
  ·rw [List.getElem?_eq_none (by simpa using hi)]
   simp only [Option.map_none]
   symm
   apply List.getElem?_eq_none
   rw [List.length_flatten,List.map_replicate,List.sum_replicate_nat,Array.length_toList]
   omega
theorem run_clear_k (w:World)(t e ty:TypeId)(z:Value)(ht:P.underlying t=some (.slice e))(hv:∀w,(zeroValue e).run P w= .ok z w)(n:Nat)(zs:List Value)(hz:(List.replicate n z.cells.toList).flatten=zs)(h1:∀v∈zs,v.oneCell'=true)(b o c:Nat)(hn:0<n)
  (hc:∀j,j<zs.length->(w.cell? ⟨b,o+j,none⟩).isSome=true) (hf:∀j,j<zs.length->w.frozen? ⟨b,o+j,none⟩=false) :
  (Builtin.clear_ #[t] ty #[.slice (some ⟨b,o,none⟩) n c]).run P w= .ok (.tuple #[]) (w.setCells b o zs):=by
 have hst:=run_storeCells_cells (P:=P) b o zs 0 w (by simpa using hc) (by simpa using hf) h1
 have hz2:(Builtin.zeroCells z.cells n).toList=zs:=by rw [Zbw];exact hz
 simp only [Nat.add_zero] at hst
 obtain⟨m,rfl⟩:∃m,n=m+1:=⟨n - 1,by omega⟩
 simp [Builtin.clear_,run_underlying ht,hv,hz2,hst]
structure RF (w w':World)(P:Nat)(ob:Option Nat)(lo hi:Nat):Prop where
 os:w'.os=w.os
 tape:w'.tape=w.tape
 output:w'.output=w.output
 size:w.heap.size<=w'.heap.size
 block:∀k,k<w.heap.size->k≠P->some k≠ob->w'.heap[k]? =w.heap[k]?
 off:P<w.heap.size->∀o,o<lo\/hi<=o->w'.cell? ⟨P,o,none⟩=w.cell? ⟨P,o,none⟩
 froz:P<w.heap.size->∀o,w'.frozen? ⟨P,o,none⟩=w.frozen? ⟨P,o,none⟩
theorem RF.of_below {w w':World}(P:Nat)(ob:Option Nat)(lo hi:Nat)(h:Below w.heap.size w w'):RF w w' P ob lo hi:=⟨h.os,h.tape,h.output,h.size,fun k hk _ _=>h.block k hk,fun hP o _=>World.cell?_of_block (a:=⟨P,o,none⟩) (h.block P hP),fun hP o=>World.frozen?_of_block (a:=⟨P,o,none⟩) (h.block P hP)⟩
theorem RF.trans {x y z:World}{P:Nat}{ob ob':Option Nat}{lo hi:Nat}(h:RF x y P ob lo hi)(g:RF y z P ob' lo hi)(ho:∀k,ob'=some k->ob=some k\/x.heap.size<=k):RF x z P ob lo hi:=by
 refine⟨g.os.trans h.os,g.tape.trans h.tape,g.output.trans h.output,Nat.le_trans h.size g.size,fun k hk hP hr=> ?_,fun hP o hl=>(g.off (Nat.lt_of_lt_of_le hP h.size) o hl).trans (h.off hP o hl),fun hP o=>(g.froz (Nat.lt_of_lt_of_le hP h.size) o).trans (h.froz hP o)⟩
 refine (g.block k (Nat.lt_of_lt_of_le hk h.size) hP (fun e=> ?_)).trans (h.block k hk hP hr)
 rcases ho k e.symm with h1 | h1
 ·exact hr h1.symm
 ·omega
theorem RF.setP (w:World)(P o:Nat)(ob:Option Nat)(v:Value){lo hi:Nat}(h:lo<=o/\o<hi):RF w (w.setCell ⟨P,o,none⟩ v) P ob lo hi :=
 ⟨rfl,rfl,rfl,by simp [World.setCell],fun k _ hP _=>Below.heap_setCell w ⟨P,o,none⟩ v k (by simpa using hP),fun _ o' h'=>World.cell?_setCell_other _ _ _ _ (fun e=>by have:=(Addr.mk.inj e).2.1;omega),fun _ o'=>by rw [World.frozen?_setCell]⟩
structure RingIs {α:Type}(ys:List α)(first:Nat)(xs:List α):Prop where
 few:xs.length<=ys.length
 first_:first<ys.length\/(first=0/\ys=[])
 at_:∀i,i<xs.length->ys[(first+i) % ys.length]? =xs[i]?
theorem RingIs.nil {α:Type}:RingIs ([]:List α) 0 []:=⟨Nat.le_refl _,Or.inr ⟨rfl,rfl⟩,fun i h=>by simp at h⟩
theorem RingIs.list {α:Type}{ys xs:List α}{first:Nat}(h:RingIs ys first xs):xs=(ys.drop first).take xs.length++ys.take (xs.length - (ys.length - first)):=by
 have hf:=h.few
 apply List.ext_getElem?
 intro i
 rcases h.first_ with h1 | ⟨h1,h2⟩
 ·by_cases hi:i<xs.length
  ·rw [<-h.at_ i hi]
   by_cases h3:i<ys.length - first
   ·rw [List.getElem?_append_left (by rw [List.length_take,List.length_drop];omega),List.getElem?_take_of_lt hi,List.getElem?_drop,Nat.mod_eq_of_lt (by omega)]
   ·rw [List.getElem?_append_right (by rw [List.length_take,List.length_drop];omega),List.length_take,List.length_drop,Nat.min_eq_right (by omega),List.getElem?_take_of_lt (by omega)]
    congr 1
    rw [Nat.mod_eq_sub_mod (by omega),Nat.mod_eq_of_lt (by omega)]
    omega
  ·rw [List.getElem?_eq_none (by omega),List.getElem?_eq_none]
   rw [List.length_append,List.length_take,List.length_drop,List.length_take]
   omega
 ·subst h1 h2
  simp only [List.length_nil,Nat.le_zero_eq,List.length_eq_zero_iff] at hf
  subst hf
  simp
theorem RingIs.push {α:Type}{ys xs:List α}{first:Nat}(h:RingIs ys first xs)(hr:xs.length<ys.length)(x:α):RingIs (ys.set ((first+xs.length) % ys.length) x) first (xs++[x]):=by
 have hf:first<ys.length:=by
  rcases h.first_ with h1 | ⟨_,h2⟩
  ·exact h1
  ·subst h2;simp at hr
 refine⟨by simp;omega,Or.inl (by simpa using hf),fun i hi=> ?_⟩
 rw [List.length_append,List.length_singleton] at hi
 rw [List.length_set]
 by_cases e:i=xs.length
 ·subst e
  rw [List.getElem?_set_self (Nat.mod_lt _ (by omega)),List.getElem?_append_right (Nat.le_refl _),Nat.sub_self]
  rfl
 ·have hne:(first+xs.length) % ys.length≠(first+i) % ys.length:=by
   intro e2
   have hn:0<ys.length:=by omega
   by_cases h3:first+i<ys.length
   ·rw [Nat.mod_eq_of_lt h3] at e2
    by_cases h4:first+xs.length<ys.length
    ·rw [Nat.mod_eq_of_lt h4] at e2;omega
    ·rw [Nat.mod_eq_sub_mod (by omega),Nat.mod_eq_of_lt (by omega)] at e2;omega
   ·rw [Nat.mod_eq_sub_mod (a:=first+i) (by omega),Nat.mod_eq_of_lt (a:=first+i - ys.length) (by omega),Nat.mod_eq_sub_mod (by omega),Nat.mod_eq_of_lt (by omega)] at e2
    omega
  rw [List.getElem?_set_ne hne,List.getElem?_append_left (by omega)]
  exact h.at_ i (by omega)
theorem RingIs.pop {α:Type}{ys xs:List α}{first:Nat}{x:α}(h:RingIs ys first (x::xs))(z:α):ys[first]? =some x/\RingIs (ys.set first z) ((first+1) % ys.length) xs:=by
 have hlen:=h.few
 simp only [List.length_cons] at hlen
 have hf:first<ys.length:=by
  rcases h.first_ with h1 | ⟨_,h2⟩
  ·exact h1
  ·subst h2;simp at hlen
 refine⟨?_,by simp;omega,Or.inl (by rw [List.length_set];exact Nat.mod_lt _ (by omega)),fun i hi=> ?_⟩
 ·have:=h.at_ 0 (by simp)
  rw [Nat.add_zero,Nat.mod_eq_of_lt hf] at this
  simpa using this
 ·rw [List.length_set,Nat.mod_add_mod]
  have:=h.at_ (i+1) (by simp;omega)
  rw [show first+1+i=first+(i+1) by omega]
  have hne:first≠(first+(i+1)) % ys.length:=by
   by_cases h3:first+(i+1)<ys.length
   ·rw [Nat.mod_eq_of_lt h3];omega
   ·rw [Nat.mod_eq_sub_mod (by omega),Nat.mod_eq_of_lt (by omega)];omega
  rw [List.getElem?_set_ne hne,this]
  simp
theorem RingIs.of_list {α:Type}(xs zs:List α):RingIs (xs++zs) 0 xs:=by
 refine⟨by simp,?_,fun i hi=> ?_⟩
 ·cases h:xs++zs with
  | nil=>exact Or.inr ⟨rfl,rfl⟩
  | cons a l=>exact Or.inl (by simp)
 ·rw [Nat.zero_add,Nat.mod_eq_of_lt (by simp;omega),List.getElem?_append_left hi]
theorem Zaa {w:World}{k:Nat}{o:Obj}(h:w.heap[k]? =some o):k<w.heap.size:=(Array.getElem?_eq_some_iff.1 h).1
end Go.Proofs.YtgdcjccbdmcebabGreatDoor
namespace Go.Proofs.YtgdcjccbdmcebabGreatDoor
open Go.RowKit
set_option maxRecDepth 100000
attribute [local go_sem ↓] Go.wp_at_zero Go.wp_at_succ
def plS (p:PlD):List Value:=[.int .u64 p.run, .int .i64 p.node]
theorem Zbl (p:PlD):(plS p).length=2:=rfl
structure QAt (w:World)(P B:Nat)(a:Option Addr)(n c first:Nat)(ys xs:List PlD):Prop where
 c0:w.cell? ⟨P,8,none⟩=some (.slice a n c)
 c1:w.cell? ⟨P,9,none⟩=some (.int .i64 first)
 c2:w.cell? ⟨P,10,none⟩=some (.int .i64 xs.length)
 fz:∀o,w.frozen? ⟨P,o,none⟩=false
 row:w.ownsRow B 180 2 (.slice a n c) n (ys.flatMap plS)
 len:ys.length=n
 ring:RingIs ys first xs
 few:n<=1000
 pb:P<B
 bs:B<=w.heap.size
theorem plS_one (l:List PlD):∀u∈l.flatMap plS,u.oneCell'=true:=by
 intro u hu
 obtain⟨x,_,hx⟩:=List.mem_flatMap.1 hu
 simp only [plS,List.mem_cons,List.not_mem_nil,or_false] at hx
 first | (rcases hx with rfl | rfl<;>rfl) | (rcases hx with rfl;rfl)
theorem Zao (l:List PlD):(l.flatMap plS).length=l.length * 2:=by
 induction l with
 | nil=>rfl
 | cons a l ih=>rw [List.flatMap_cons,List.length_append,ih,Zbl,List.length_cons];omega
theorem plS_take (l:List PlD)(i:Nat):(l.flatMap plS).take (i * 2)=(l.take i).flatMap plS:=by
 induction l generalizing i with
 | nil=>simp
 | cons a l ih =>
  cases i with
  | zero=>simp
  | succ i=>rw [List.flatMap_cons,List.take_succ_cons,List.flatMap_cons,List.take_append,Zbl,List.take_of_length_le (by rw [Zbl];omega),show (i+1) * 2 - 2=i * 2 by omega,ih]
theorem plS_drop (l:List PlD)(i:Nat):(l.flatMap plS).drop (i * 2)=(l.drop i).flatMap plS:=by
 induction l generalizing i with
 | nil=>simp
 | cons a l ih =>
  cases i with
  | zero=>simp
  | succ i=>rw [List.flatMap_cons,List.drop_succ_cons,List.drop_append,Zbl,List.drop_of_length_le (by rw [Zbl];omega),show (i+1) * 2 - 2=i * 2 by omega,ih];rfl
theorem plS_zeros (n:Nat):(List.replicate n (.agg #[.int .u64 0, .int .i64 0]:Value).cells.toList).flatten=(List.replicate n (⟨0,0⟩:PlD)).flatMap plS:=by
 induction n with
 | zero=>rfl
 | succ n ih=>rw [List.replicate_succ,List.flatten_cons,List.replicate_succ,List.flatMap_cons,ih];rfl
theorem infoTR:(Tryz.prog.info? 180).map (fun i=>(i.zero,i.size,i.bytes))=some (some (.agg #[.int .u64 0, .int .i64 0]),2,16):=by kernel_rfl
theorem zeroTR (w:World):(zeroValue 180).run Tryz.prog w= .ok (.agg #[.int .u64 0, .int .i64 0]) w:=by kernel_rfl
theorem sizeTR:(Tryz.prog.info? 180).map (·.size)=some 2:=by kernel_rfl
theorem makeTR (w:World)(n:Nat)(hn:n<=100000):(Instr.makeSlice 129 (.int .i64 (n:Int)) (.int .i64 (n:Int))).run Tryz.prog w= .ok (.slice (some ⟨w.heap.size,0,none⟩) n n) (w.alloc (.cells (madeCells (.agg #[.int .u64 0, .int .i64 0]:Value).cells (n * 2)) 180)):=by
 obtain⟨i,hi,hz,hs,hb⟩:=info_parts infoTR
 have:=run_makeSlice (P:=Tryz.prog) w 129 180 i _ Tryz.underlying129 hi hz .i64 .i64 n n (by omega) (by omega) (by rw [hs];simp;omega) (by rw [hb];omega) (by omega)
 rw [hs] at this
 simpa using this
set_option maxHeartbeats 1000000 in
theorem emptyTR_any (w:World)(P n:Nat)(h:w.cell? ⟨P,10,none⟩=some (.int .i64 n)) :
  Calls Tryz.prog 95 #[.pointer (some ⟨P,8,none⟩)] w fun e w'=>e= .returned (.bool (decide (n=0)))/\w'=w:=by
 go_enter Tryz.func95,Tryz.ntmps95
 go_wp2_with fail
 go_ret
 exact⟨by first | rfl | (congr 2;by_cases e:n=0<;>simp [e]),rfl⟩
theorem madeTR (n:Nat):(madeCells (.agg #[.int .u64 0, .int .i64 0]:Value).cells (n * 2)).toList=(List.replicate n (⟨0,0⟩:PlD)).flatMap plS:=by
 rw [<-plS_zeros,<-Zbw]
 rfl
theorem copyTR (w:World)(ty:TypeId)(b o dLen dCap m:Nat)(a:Addr)(sLen sCap:Nat)(cur:Array Value)(zs:List PlD)(hw:w.heap[b]? =some (.cells cur 180 (0,0)))(hm:Nat.min sLen dLen=m)(hz:zs.length=m)(hsz:o+m * 2<=cur.size)
  (hsrc:∀j v,(zs.flatMap plS)[j]? =some v->w.cell? (a.add j)=some v) :
  (Builtin.copy_ #[129,129] ty #[.slice (some ⟨b,o,none⟩) dLen dCap, .slice (some a) sLen sCap]).run Tryz.prog w= .ok (goInt m) (w.setCells b o (zs.flatMap plS)):=by
 have hl:=Zao zs
 refine run_copy_k w 129 129 ty 180 2 m b o dLen dCap a sLen sCap (zs.flatMap plS) Tryz.underlying129 sizeTR hm (by omega) hsrc (fun j hj=> ?_) (fun j _=> ?_) (plS_one zs)
 ·unfold World.cell?
  rw [hw]
  simp only [Array.getElem?_eq_getElem (show o+j<cur.size by omega)]
  rfl
 ·simp [World.frozen?,hw]
theorem Zcc (g:Nat)(e:TypeId):∀(vs:List Value) (o:Nat) (w:World) (cur:Array Value),w.heap[g]? =some (.cells cur e (0,0))->o+vs.length<=cur.size->∃cur',(w.setCells g o vs).heap[g]? =some (.cells cur' e (0,0))/\cur'.size=cur.size/\cur'.toList=cur.toList.take o++vs++cur.toList.drop (o+vs.length)
 | [],o,w,cur,h,_=>⟨cur,h,rfl,by simp⟩
 | v::r,o,w,cur,h,hl=>by
  have h2:(w.setCell ⟨g,o,none⟩ v).heap[g]? =some (.cells (cur.setIfInBounds o v) e (0,0)):=by
   simp [World.setCell,Array.getElem?_modify,h]
  obtain⟨cur',h3,h4,h5⟩:=Zcc g e r (o+1) (w.setCell ⟨g,o,none⟩ v) (cur.setIfInBounds o v) h2 (by simp at hl ⊢;omega)
  refine⟨cur',h3,by simpa using h4,?_⟩
  simp only [List.length_cons] at hl ⊢
  have ho:o<cur.toList.length:=by simp;omega
  rw [h5,Array.toList_setIfInBounds,List.take_set,List.take_add_one,List.getElem?_eq_getElem ho,Option.toList_some,List.set_append_right _ _ (by simp;omega),List.drop_set_of_lt (by omega)]
  have:o - (List.take o cur.toList).length=0:=by simp;omega
  rw [this,show o+(r.length+1)=o+1+r.length by omega]
  simp
theorem Zbo (w:World)(g o:Nat)(vs:List Value):(w.setCells g o vs).heap.size=w.heap.size/\(w.setCells g o vs).os=w.os/\(w.setCells g o vs).tape=w.tape/\(w.setCells g o vs).output=w.output:=by
 induction vs generalizing o w with
 | nil=>exact⟨rfl,rfl,rfl,rfl⟩
 | cons v r ih =>
  obtain⟨h1,h2,h3,h4⟩:=ih (w.setCell ⟨g,o,none⟩ v) (o+1)
  rw [World.setCells]
  exact⟨by rw [h1];simp [World.setCell],h2,h3,h4⟩
theorem Zan (g k:Nat)(hk:k≠g):∀(vs:List Value) (o:Nat) (w:World),(w.setCells g o vs).heap[k]? =w.heap[k]?
 | [],_,_=>rfl
 | v::r,o,w=>by rw [World.setCells,Zan g k hk r];exact Below.heap_setCell w ⟨g,o,none⟩ v k hk
theorem Zdi {w w':World}{k:Nat}(h:Below k w w')(g o:Nat)(vs:List Value)(hg:k<=g):Below k w (w'.setCells g o vs):=by
 obtain⟨h1,h2,h3,h4⟩:=Zbo w' g o vs
 exact⟨h2.trans h.os,h3.trans h.tape,h4.trans h.output,by rw [h1];exact h.size,fun j hj=>(Zan g j (by omega) vs o w').trans (h.block j hj)⟩
set_option maxHeartbeats 4000000 in
theorem listTR_any (w:World)(P B n c first:Nat)(a:Option Addr)(ys xs:List PlD)(h:QAt w P B a n c first ys xs) :
  Calls Tryz.prog 93 #[.pointer (some ⟨P,8,none⟩)] w fun e w'=>∃a' c',e= .returned (.slice a' xs.length c')/\w'.ownsRow w.heap.size 180 2 (.slice a' xs.length c') xs.length (xs.flatMap plS)/\Below w.heap.size w w':=by
 obtain⟨m,hm⟩:∃m,m=xs.length:=⟨_,rfl⟩
 have c0:=h.c0
 have c1:=h.c1
 have c2:=h.c2
 have hlen:=h.len
 have hring:=h.ring
 have hfew:=h.few
 have hf:=hring.few
 have hnm:m<=n:=by omega
 rw [<-hm] at c2 ⊢
 have hem:=emptyTR_any w P m c2
 have HE:=Hid.mk hem
 by_cases h0:m=0
 ·subst h0
  have hx:xs=[]:=List.eq_nil_of_length_eq_zero hm.symm
  have HX:=Hid.mk hx
  clear hm hx hring hf hem
  go_enter Tryz.func93,Tryz.ntmps93
  go_wp2_with (go_at_call 95;refine HE.out.mono ?_;rintro e w1 ⟨rfl,hw1⟩;rw [hw1])
  go_ret
  exact⟨none,0,rfl,by rw [HX.out];exact World.ownsRow_nil _ _ _ _,Below.refl _ _⟩
 ·obtain⟨g,cur,rfl,hg,hnc,hcm,hgc⟩:∃g cur,a=some ⟨g,0,none⟩/\B<=g/\n<=c/\c<=maxLen/\w.heap[g]? =some (.cells cur 180 (0,0)):=by
   rcases h.row.2 with⟨h2,h3⟩ | ⟨g,cap,cur,h2,hg,hh,h3,h4,_⟩
   ·simp only [Value.slice.injEq] at h2
    omega
   ·obtain⟨rfl,_,rfl⟩:a=some ⟨g,0,none⟩/\n=n/\c=cap:=by simpa using h2
    exact⟨g,cur,rfl,hg,h3,h4,hh⟩
  have hcell:∀j,j<n * 2->w.cell? ⟨g,j,none⟩=(ys.flatMap plS)[j]? :=fun j hj=>h.row.cellAt j hj
  have hfl:first<n:=by
   rcases hring.first_ with h1 | ⟨_,h2⟩
   ·omega
   ·subst h2;simp at hlen;omega
  have hgl:g<w.heap.size:=(Array.getElem?_eq_some_iff.1 hgc).1
  have hxl:=hring.list
  unfold maxLen at hcm
  have hmk:=makeTR w m (by omega)
  have HXS:=Hid.mk (And.intro hm (And.intro hxl (And.intro hlen hcell)))
  have HP:=Hid.mk (And.intro h.pb h.bs)
  obtain⟨lb,hlb⟩:∃lb,lb=w.heap.size:=⟨_,rfl⟩
  obtain⟨w1,hw1⟩:∃w1,w1=w.alloc (.cells (madeCells (.agg #[.int .u64 0, .int .i64 0]:Value).cells (m * 2)) 180):=⟨_,rfl⟩
  rw [<-hlb,<-hw1] at hmk
  have hb1:Below w.heap.size w w1:=by rw [hw1];exact (Below.refl _ _).alloc (Nat.le_refl _) _
  have hl1:w1.heap[lb]? =some (.cells (madeCells (.agg #[.int .u64 0, .int .i64 0]:Value).cells (m * 2)) 180 (0,0)):=by rw [hw1,hlb];exact heap_alloc_new w _
  have c0:=cell_later hb1 c0
  have c1:=cell_later hb1 c1
  have c2:=cell_later hb1 c2
  have HB1:=Hid.mk (And.intro hb1 (And.intro hlb hl1))
  have HC0:=Hid.mk h.c0
  have g0:decide (m=0)=false:=decide_eq_false h0
  have g1:(first:Int)<=(n:Int):=by omega
  have g2:¬(c=first):=by omega
  have g3:n<=c:=hnc
  obtain⟨m1,hm1⟩:∃m1,m1=Nat.min (n - first) m:=⟨_,rfl⟩
  have hm1m:m1<=m:=by rw [hm1];exact Nat.min_le_right _ _
  have hsrc1:∀j v,(((ys.drop first).take m1).flatMap plS)[j]? =some v->w1.drew.cell? (Addr.add ⟨g,first * 2,none⟩ j)=some v:=by
   intro j v hv
   have hj:j<m1 * 2:=by
    have:=(List.getElem?_eq_some_iff.1 hv).1
    rw [Zao,List.length_take] at this
    have:=Nat.min_le_left m1 (ys.drop first).length
    omega
   have hm1n:m1<=n - first:=by rw [hm1];exact Nat.min_le_left _ _
   rw [Zb5]
   refine (World.cell?_of_block (a:=⟨g,first * 2+j,none⟩) (hb1.block g hgl)).trans ?_
   rw [hcell _ (by omega),<-hv,<-plS_take,<-plS_drop,List.getElem?_take_of_lt hj,List.getElem?_drop]
  have hz1:((ys.drop first).take m1).length=m1:=by
   rw [List.length_take,List.length_drop,hlen]
   have:m1<=n - first:=by rw [hm1];exact Nat.min_le_left _ _
   omega
  have hcp1:=fun ty=>copyTR w1.drew ty lb 0 m m m1 ⟨g,first * 2,none⟩ (n - first) (c - first) _ ((ys.drop first).take m1) hl1 hm1.symm hz1 (by rw [size_madeCells];omega) hsrc1
  have HS1:=Hid.mk (And.intro hsrc1 (And.intro hz1 hm1))
  try simp only [Nat.mul_one] at hcp1
  clear hw1 hm hxl hlen hcell hring hf hem hgc hsrc1 hz1 hb1 hl1 h hlb hm1
  go_enter Tryz.func93,Tryz.ntmps93
  go_upto_region 4 with (go_at_call 95;refine HE.out.mono ?_;rintro e w9 ⟨rfl,hw9⟩;rw [hw9])
  try rw [<-HB1.out.2.1]
  go_region
  obtain⟨w2,hw2⟩:∃w2,w2=w1.drew.setCells lb 0 (((ys.drop first).take m1).flatMap plS):=⟨_,rfl⟩
  try rw [<-hw2]
  have hfl1:=Zao ((ys.drop first).take m1)
  have hb2:Below w.heap.size w w2:=by rw [hw2];exact Zdi HB1.out.1.drew _ _ _ (by have:=HB1.out.2.1;omega)
  obtain⟨cur2,k1,k2,k3⟩:=Zcc lb 180 (((ys.drop first).take m1).flatMap plS) 0 w1.drew _ HB1.out.2.2 (by rw [size_madeCells,hfl1,HS1.out.2.1,Nat.zero_add];exact Nat.mul_le_mul_right _ hm1m)
  rw [<-hw2] at k1
  rw [size_madeCells] at k2
  have k3':cur2.toList.take (m1 * 2)=((ys.drop first).take m1).flatMap plS:=by
   rw [k3]
   simp only [List.take_zero,List.nil_append]
   rw [List.take_append_of_le_length (by rw [hfl1,HS1.out.2.1];exact Nat.le_refl _),List.take_of_length_le (by rw [hfl1,HS1.out.2.1];exact Nat.le_refl _)]
  have HB2:=Hid.mk (And.intro hb2 (And.intro k1 (And.intro k2 k3')))
  have hPs:P<w.heap.size:=by have:=HP.out;omega
  have c0:=(World.cell?_of_block (a:=⟨P,8,none⟩) (hb2.block P hPs)).trans (HC0.out)
  clear hcp1 k1 k2 k3 k3' hw2 hb2 hfl1 c1 c2
  by_cases h1:m1=m
  ·subst h1
   have hcp2:∀A C,∀ty,(Builtin.copy_ #[129,129] ty #[.slice A 0 C, .slice (some ⟨g,0,none⟩) n c]).run Tryz.prog w2.drew= .ok (goInt 0) w2.drew:=fun A C ty=>Zcs w2.drew 129 129 ty 180 2 A _ 0 C n c Tryz.underlying129 sizeTR (Nat.min_zero _)
   go_wp2_with fail
   go_region
   go_wp2_with fail
   go_ret
   obtain⟨q1,q2,q3,q4⟩:=HB2.out
   obtain⟨x1,x2,x3,_⟩:=HXS.out
   have hle:m1<=n - first:=by
    have:=HS1.out.2.2
    rw [this]
    exact Nat.min_le_left _ _
   have hx:xs.flatMap plS=cur2.toList.take (m1 * 2):=by
    rw [q4,x2,<-x1,show m1 - (ys.length - first)=0 by omega]
    simp
   refine⟨some ⟨lb,0,none⟩,m1,rfl,⟨by rw [Zao,<-x1],Or.inr ⟨lb,m1,cur2,rfl,by have:=HB1.out.2.1;omega,q2,Nat.le_refl _,by unfold maxLen;omega,q3,hx.symm⟩⟩,⟨q1.os,q1.tape,q1.output,q1.size,q1.block⟩⟩
  ·have hm1n:m1=n - first:=by
    have:=HS1.out.2.2
    rcases Nat.le_total (n - first) m with h2 | h2
    ·rw [this];exact Nat.min_eq_left h2
    ·exact absurd (this.trans (Nat.min_eq_right h2)) h1
   obtain⟨m2,hm2⟩:∃m2,m2=m - m1:=⟨_,rfl⟩
   have hsrc2:∀j v,((ys.take m2).flatMap plS)[j]? =some v->w2.drew.cell? (Addr.add ⟨g,0,none⟩ j)=some v:=by
    intro j v hv
    have hj:j<m2 * 2:=by
     have:=(List.getElem?_eq_some_iff.1 hv).1
     rw [Zao,List.length_take] at this
     have:=Nat.min_le_left m2 ys.length
     omega
    rw [Zb5]
    refine (World.cell?_of_block (a:=⟨g,0+j,none⟩) (HB2.out.1.block g hgl)).trans ?_
    rw [HXS.out.2.2.2 _ (by omega),<-hv,<-plS_take,List.getElem?_take_of_lt hj,Nat.zero_add]
   have hz2:(ys.take m2).length=m2:=by rw [List.length_take,HXS.out.2.2.1];omega
   have hcp2:=fun ty=>copyTR w2.drew ty lb (m1 * 2) m2 m2 m2 ⟨g,0,none⟩ n c cur2 (ys.take m2) HB2.out.2.1 (by show min n m2=m2;omega) hz2 (by rw [HB2.out.2.2.1,<-Nat.add_mul];exact Nat.mul_le_mul_right _ (by omega)) hsrc2
   try simp only [Nat.mul_one] at hcp2
   have g5:(m1:Int)<=(m:Int):=by omega
   have g6:m - m1=m2:=hm2.symm
   have g7:¬(m=m1):=fun e=>h1 e.symm
   have HM2:=Hid.mk (And.intro hm2 (And.intro hm1n hz2))
   clear hsrc2 hm1n hz2 hm2 h1
   go_wp2_with fail
   go_region
   go_wp2_with fail
   go_ret
   obtain⟨q1,q2,q3,q4⟩:=HB2.out
   obtain⟨x1,x2,x3,_⟩:=HXS.out
   obtain⟨y1,y2,y3⟩:=HM2.out
   have hfl2:=Zao (ys.take m2)
   obtain⟨cur3,k1,k2,k3⟩:=Zcc lb 180 ((ys.take m2).flatMap plS) (m1 * 2) w2.drew cur2 q2 (by rw [hfl2,y3,q3,<-Nat.add_mul];exact Nat.mul_le_mul_right _ (by omega))
   have hx:cur3.toList.take (m * 2)=xs.flatMap plS:=by
    have e1:m * 2=(cur2.toList.take (m1 * 2)++(ys.take m2).flatMap plS).length:=by
     rw [List.length_append,List.length_take,Array.length_toList,q3,hfl2,y3];omega
    rw [k3,e1,List.take_append_of_le_length (Nat.le_refl _),List.take_length,q4,x2,<-x1,List.flatMap_append,show m - (ys.length - first)=m2 by omega]
    have hd:(ys.drop first).length<=m:=by rw [List.length_drop];omega
    have hd1:(ys.drop first).length<=m1:=by rw [List.length_drop];omega
    rw [List.take_of_length_le hd,List.take_of_length_le hd1]
   refine⟨some ⟨lb,0,none⟩,m,rfl,⟨by rw [Zao,<-x1],Or.inr ⟨lb,m,cur3,rfl,by have:=HB1.out.2.1;omega,(by first | exact k1 | (rw [Nat.mul_one] at k1;exact k1)),Nat.le_refl _,by unfold maxLen;omega,by rw [k2,q3],hx⟩⟩,?_⟩
   exact Zdi q1.drew _ _ _ (by have:=HB1.out.2.1;omega)
theorem plS_set (ys:List PlD)(p:Nat)(x:PlD)(hp:p<ys.length):(ys.flatMap plS).take (p * 2)++plS x++(ys.flatMap plS).drop (p * 2+2)=(ys.set p x).flatMap plS:=by
 rw [plS_take,show p * 2+2=(p+1) * 2 by omega,plS_drop,List.set_eq_take_append_cons_drop,if_pos hp,List.flatMap_append,List.flatMap_cons,List.append_assoc]
theorem own_setTR {w:World}{B g n c p:Nat}{ys:List PlD}(h:w.ownsRow B 180 2 (.slice (some ⟨g,0,none⟩) n c) n (ys.flatMap plS))(hl:ys.length=n)(hp:p<n)(x:PlD):(w.setCells g (p * 2) (plS x)).ownsRow B 180 2 (.slice (some ⟨g,0,none⟩) n c) n ((ys.set p x).flatMap plS):=by
 rcases h.2 with⟨h2,_⟩ | ⟨g',cap,cur,h2,hg,hh,h3,h4,h5,h6⟩
 ·cases h2
 ·obtain⟨rfl,rfl⟩:g=g'/\c=cap:=by simpa using h2
  have hpk:p * 2+2<=n * 2:=by have:=Nat.mul_le_mul_right 2 (show p+1<=n by omega);omega
  have hnk:n * 2<=c * 2:=Nat.mul_le_mul_right _ h3
  have hel:=Zbl x
  obtain⟨cur',k1,k2,k3⟩:=Zcc g 180 (plS x) (p * 2) w cur hh (by omega)
  refine⟨by rw [Zao,List.length_set,hl],Or.inr ⟨g,c,cur',rfl,hg,k1,h3,h4,by omega,?_⟩⟩
  rw [<-plS_set ys p x (by omega),<-h6,k3,hel]
  have e1:(cur.toList.take (n * 2)).take (p * 2)=cur.toList.take (p * 2):=by rw [List.take_take,Nat.min_eq_left (by omega)]
  rw [e1,List.take_append,List.take_of_length_le (by rw [List.length_append,List.length_take,Array.length_toList,hel];omega),List.length_append,List.length_take,Array.length_toList,hel,Nat.min_eq_left (by omega),List.drop_take]
theorem QAt.frame {w w':World}{P B n c first:Nat}{a:Option Addr}{ys xs:List PlD}(h:QAt w P B a n c first ys xs)(hs:w.heap.size<=w'.heap.size)(hP:∀o,8<=o->o<11->w'.cell? ⟨P,o,none⟩=w.cell? ⟨P,o,none⟩)(hf:∀o,w'.frozen? ⟨P,o,none⟩=w.frozen? ⟨P,o,none⟩)(hr:∀z,(Value.slice a n c).ownBlock=some z->w'.heap[z]? =w.heap[z]?):QAt w' P B a n c first ys xs:=by
 refine⟨(hP 8 (by omega) (by omega)).trans h.c0,(hP 9 (by omega) (by omega)).trans h.c1,(hP 10 (by omega) (by omega)).trans h.c2,fun o=>(hf o).trans (h.fz o),⟨h.row.1,?_⟩,h.len,h.ring,h.few,h.pb,Nat.le_trans h.bs hs⟩
 rcases h.row.2 with h2 | ⟨g,cap,cur,h2,hg,hh,h3⟩
 ·exact Or.inl h2
 ·exact Or.inr ⟨g,cap,cur,h2,hg,(hr g (by rw [h2];rfl)).trans hh,h3⟩
theorem QAt.below {w w':World}{P B n c first:Nat}{a:Option Addr}{ys xs:List PlD}(h:QAt w P B a n c first ys xs)(hb:Below w.heap.size w w'):QAt w' P B a n c first ys xs:=by
 have hP:P<w.heap.size:=Nat.lt_of_lt_of_le h.pb h.bs
 exact h.frame hb.size (fun o _ _=>World.cell?_of_block (a:=⟨P,o,none⟩) (hb.block P hP)) (fun o=>World.frozen?_of_block (a:=⟨P,o,none⟩) (hb.block P hP)) (fun z hz=>hb.block z (h.row.lt z hz).2)
theorem QAt.pushed {w:World}{P B g n c first:Nat}{ys xs:List PlD}(h:QAt w P B (some ⟨g,0,none⟩) n c first ys xs)(hr:xs.length<n)(x:PlD) :
  QAt (((w.setCells g ((first+xs.length) % n * 2) (plS x)).setCell ⟨P,10,none⟩ (.int .i64 (xs.length+1:Nat))).drew) P B (some ⟨g,0,none⟩) n c first (ys.set ((first+xs.length) % n) x) (xs++[x])/\RF w (((w.setCells g ((first+xs.length) % n * 2) (plS x)).setCell ⟨P,10,none⟩ (.int .i64 (xs.length+1:Nat))).drew) P (some g) 8 11:=by
 have hgp:g≠P:=by
  have:=(h.row.lt g rfl).1
  have:=h.pb
  omega
 have hpos:(first+xs.length) % n<n:=Nat.mod_lt _ (by omega)
 have hrow:=own_setTR h.row h.len hpos x
 have hP:∀o,(w.setCells g ((first+xs.length) % n * 2) (plS x)).cell? ⟨P,o,none⟩=w.cell? ⟨P,o,none⟩:=fun o=>World.cell?_of_block (a:=⟨P,o,none⟩) (Zan g P (Ne.symm hgp) _ _ _)
 have hFz:∀o,(w.setCells g ((first+xs.length) % n * 2) (plS x)).frozen? ⟨P,o,none⟩=w.frozen? ⟨P,o,none⟩:=fun o=>World.frozen?_of_block (a:=⟨P,o,none⟩) (Zan g P (Ne.symm hgp) _ _ _)
 obtain⟨s1,s2,s3,s4⟩:=Zbo w g ((first+xs.length) % n * 2) (plS x)
 have hlen:=h.len
 generalize hw1:w.setCells g ((first+xs.length) % n * 2) (plS x)=w1 at *
 refine⟨⟨?_,?_,?_,fun o=> ?_,?_,by rw [List.length_set];exact h.len,?_,h.few,h.pb,?_⟩,?_⟩
 ·exact (Zab w1 P 10 8 _ (by decide)).trans ((hP 8).trans h.c0)
 ·exact (Zab w1 P 10 9 _ (by decide)).trans ((hP 9).trans h.c1)
 ·rw [List.length_append,List.length_singleton]
  exact World.cell?_setCell_same w1 ⟨P,10,none⟩ _ ((hP 10).trans h.c2)
 ·exact (World.frozen?_setCell w1 ⟨P,10,none⟩ _ _).trans ((hFz o).trans (h.fz o))
 ·exact (ownsRow_setCell_below hrow h.pb _).drew
 ·have:=h.ring.push (by omega) x
  rw [hlen] at this
  exact this
 ·show B<=(World.setCell w1 ⟨P,10,none⟩ _).heap.size
  simp only [World.setCell,Array.size_modify]
  rw [s1];exact h.bs
 ·refine⟨s2,s3,s4,?_,fun k hk hkP hr=> ?_,fun _ o ho=> ?_,fun _ o=> ?_⟩
  ·show w.heap.size<=(World.setCell w1 ⟨P,10,none⟩ _).heap.size
   simp only [World.setCell,Array.size_modify]
   rw [s1];exact Nat.le_refl _
  ·refine (Below.heap_setCell w1 ⟨P,10,none⟩ _ k hkP).trans ?_
   rw [<-hw1]
   exact Zan g k (fun e=>hr (by rw [e])) _ _ _
  ·exact (Zab w1 P 10 o _ (by omega)).trans (hP o)
  ·exact (World.frozen?_setCell w1 ⟨P,10,none⟩ _ _).trans (hFz o)
theorem copyInTR {w:World}{B b N m c:Nat}{a:Option Addr}{xs:List PlD}{cur:Array Value}(hw:w.heap[b]? =some (.cells cur 180 (0,0)))(ho:w.ownsRow B 180 2 (.slice a m c) m (xs.flatMap plS))(hm:m=xs.length)(hN:m<=N)(hs:cur.size=N * 2)(ty:TypeId) :
  (Builtin.copy_ #[129,129] ty #[.slice (some ⟨b,0,none⟩) N N, .slice a m c]).run Tryz.prog w= .ok (goInt m) (w.setCells b 0 (xs.flatMap plS)):=by
 rcases ho.2 with⟨h2,h3⟩ | ⟨g,cap,cur',h2,hg,hh,h4⟩
 ·have h0:m=0:=by
   simp only [Value.slice.injEq] at h2
   omega
  have hx:xs=[]:=List.eq_nil_of_length_eq_zero (by omega)
  subst hx h0
  exact Zcs w 129 129 ty 180 2 _ a N N 0 c Tryz.underlying129 sizeTR (Nat.zero_min _)
 ·obtain⟨rfl,_,rfl⟩:a=some ⟨g,0,none⟩/\m=m/\c=cap:=by simpa using h2
  refine copyTR w ty b 0 N N m ⟨g,0,none⟩ m c cur xs hw (Nat.min_eq_left hN) hm.symm (by rw [hs,Nat.zero_add];exact Nat.mul_le_mul_right _ hN) (fun j v hv=> ?_)
  have hj:j<m * 2:=by
   have:=(List.getElem?_eq_some_iff.1 hv).1
   rw [Zao] at this
   rw [hm];exact this
  rw [Zb5,Nat.zero_add,ho.cellAt j hj]
  exact hv
theorem QAt.grown {w w3:World}{P B n c first nb N:Nat}{a:Option Addr}{ys xs:List PlD}(h:QAt w P B a n c first ys xs)(hb:Below w.heap.size w w3)(hnb:w.heap.size<=nb)(hl:w3.heap[nb]? =some (.cells (madeCells (.agg #[.int .u64 0, .int .i64 0]:Value).cells (N * 2)) 180 (0,0)))(hN:xs.length+1<=N/\N<=1000) :
  QAt (((w3.setCells nb 0 (xs.flatMap plS)).setCell ⟨P,8,none⟩ (.slice (some ⟨nb,0,none⟩) N N)).setCell ⟨P,9,none⟩ (.int .i64 0)) P B (some ⟨nb,0,none⟩) N N 0 (xs++List.replicate (N - xs.length) (⟨0,0⟩:PlD)) xs/\RF w (((w3.setCells nb 0 (xs.flatMap plS)).setCell ⟨P,8,none⟩ (.slice (some ⟨nb,0,none⟩) N N)).setCell ⟨P,9,none⟩ (.int .i64 0)) P (Value.slice a n c).ownBlock 8 11:=by
 have hPs:P<w.heap.size:=Nat.lt_of_lt_of_le h.pb h.bs
 have hfl:=Zao xs
 have hxN:xs.length * 2<=N * 2:=Nat.mul_le_mul_right _ (by omega)
 obtain⟨cur',k1,k2,k3⟩:=Zcc nb 180 (xs.flatMap plS) 0 w3 _ hl (by rw [size_madeCells];omega)
 have hb4:=Zdi hb nb 0 (xs.flatMap plS) hnb
 generalize hw4:w3.setCells nb 0 (xs.flatMap plS)=w4 at *
 have hP:∀o,w4.cell? ⟨P,o,none⟩=w.cell? ⟨P,o,none⟩:=fun o=>World.cell?_of_block (a:=⟨P,o,none⟩) (hb4.block P hPs)
 have hFz:∀o,w4.frozen? ⟨P,o,none⟩=w.frozen? ⟨P,o,none⟩:=fun o=>World.frozen?_of_block (a:=⟨P,o,none⟩) (hb4.block P hPs)
 have hrow:w4.ownsRow B 180 2 (.slice (some ⟨nb,0,none⟩) N N) N ((xs++List.replicate (N - xs.length) (⟨0,0⟩:PlD)).flatMap plS):=by
  refine⟨by rw [Zao];simp;omega,Or.inr ⟨nb,N,cur',rfl,Nat.le_trans h.bs hnb,k1,Nat.le_refl _,by unfold maxLen;omega,by rw [k2,size_madeCells],?_⟩⟩
  have e1:cur'.toList.take (N * 2)=cur'.toList:=List.take_of_length_le (by rw [Array.length_toList,k2,size_madeCells];exact Nat.le_refl _)
  rw [e1,k3,madeTR,List.take_zero,List.nil_append,List.flatMap_append,Nat.zero_add,hfl,plS_drop,List.drop_replicate]
 refine⟨⟨?_,?_,?_,fun o=> ?_,?_,by simp;omega,RingIs.of_list _ _,hN.2,h.pb,?_⟩,⟨hb4.os,hb4.tape,hb4.output,?_,fun k hk hkP _=> ?_,fun _ o ho=> ?_,fun _ o=> ?_⟩⟩
 ·rw [Zab _ P 9 8 _ (by decide)]
  exact World.cell?_setCell_same _ _ _ ((hP 8).trans h.c0)
 ·exact World.cell?_setCell_same _ _ _ (u:= .int .i64 first) (by rw [Zab _ P 8 9 _ (by decide)];exact (hP 9).trans h.c1)
 ·rw [Zab _ P 9 10 _ (by decide),Zab _ P 8 10 _ (by decide)];exact (hP 10).trans h.c2
 ·rw [World.frozen?_setCell,World.frozen?_setCell];exact (hFz o).trans (h.fz o)
 ·exact ownsRow_setCell_below (ownsRow_setCell_below hrow h.pb _) h.pb _
 ·simp only [World.setCell,Array.size_modify]
  exact Nat.le_trans h.bs hb4.size
 ·simp only [World.setCell,Array.size_modify]
  exact hb4.size
 ·exact (Below.heap_setCell _ ⟨P,9,none⟩ _ k hkP).trans ((Below.heap_setCell _ ⟨P,8,none⟩ _ k hkP).trans (hb4.block k hk))
 ·rw [Zab _ P 9 o _ (by omega),Zab _ P 8 o _ (by omega)];exact hP o
 ·rw [World.frozen?_setCell,World.frozen?_setCell];exact hFz o
def u64C (x:Int):List Value:=[.int .u64 x]
theorem Zbm (x:Int):(u64C x).length=1:=rfl
structure EAt (w:World)(P B:Nat)(a:Option Addr)(n c first:Nat)(ys xs:List Int):Prop where
 c0:w.cell? ⟨P,5,none⟩=some (.slice a n c)
 c1:w.cell? ⟨P,6,none⟩=some (.int .i64 first)
 c2:w.cell? ⟨P,7,none⟩=some (.int .i64 xs.length)
 fz:∀o,w.frozen? ⟨P,o,none⟩=false
 row:w.ownsRow B 39 1 (.slice a n c) n (ys.flatMap u64C)
 len:ys.length=n
 ring:RingIs ys first xs
 few:n<=1000
 pb:P<B
 bs:B<=w.heap.size
theorem u64C_one (l:List Int):∀u∈l.flatMap u64C,u.oneCell'=true:=by
 intro u hu
 obtain⟨x,_,hx⟩:=List.mem_flatMap.1 hu
 simp only [u64C,List.mem_cons,List.not_mem_nil,or_false] at hx
 first | (rcases hx with rfl | rfl<;>rfl) | (rcases hx with rfl;rfl)
theorem Zau (l:List Int):(l.flatMap u64C).length=l.length * 1:=by
 induction l with
 | nil=>rfl
 | cons a l ih=>rw [List.flatMap_cons,List.length_append,ih,Zbm,List.length_cons];omega
theorem u64C_take (l:List Int)(i:Nat):(l.flatMap u64C).take (i * 1)=(l.take i).flatMap u64C:=by
 induction l generalizing i with
 | nil=>simp
 | cons a l ih =>
  cases i with
  | zero=>simp
  | succ i=>rw [List.flatMap_cons,List.take_succ_cons,List.flatMap_cons,List.take_append,Zbm,List.take_of_length_le (by rw [Zbm];omega),show (i+1) * 1 - 1=i * 1 by omega,ih]
theorem u64C_drop (l:List Int)(i:Nat):(l.flatMap u64C).drop (i * 1)=(l.drop i).flatMap u64C:=by
 induction l generalizing i with
 | nil=>simp
 | cons a l ih =>
  cases i with
  | zero=>simp
  | succ i=>rw [List.flatMap_cons,List.drop_succ_cons,List.drop_append,Zbm,List.drop_of_length_le (by rw [Zbm];omega),show (i+1) * 1 - 1=i * 1 by omega,ih];rfl
theorem u64C_zeros (n:Nat):(List.replicate n (.int .u64 0:Value).cells.toList).flatten=(List.replicate n (0:Int)).flatMap u64C:=by
 induction n with
 | zero=>rfl
 | succ n ih=>rw [List.replicate_succ,List.flatten_cons,List.replicate_succ,List.flatMap_cons,ih];rfl
theorem infoTU:(Tryz.prog.info? 39).map (fun i=>(i.zero,i.size,i.bytes))=some (some (.int .u64 0),1,8):=by kernel_rfl
theorem zeroTU (w:World):(zeroValue 39).run Tryz.prog w= .ok (.int .u64 0) w:=by kernel_rfl
theorem sizeTU:(Tryz.prog.info? 39).map (·.size)=some 1:=by kernel_rfl
theorem makeTU (w:World)(n:Nat)(hn:n<=100000):(Instr.makeSlice 58 (.int .i64 (n:Int)) (.int .i64 (n:Int))).run Tryz.prog w= .ok (.slice (some ⟨w.heap.size,0,none⟩) n n) (w.alloc (.cells (madeCells (.int .u64 0:Value).cells (n * 1)) 39)):=by
 obtain⟨i,hi,hz,hs,hb⟩:=info_parts infoTU
 have:=run_makeSlice (P:=Tryz.prog) w 58 39 i _ Tryz.underlying58 hi hz .i64 .i64 n n (by omega) (by omega) (by rw [hs];simp;omega) (by rw [hb];omega) (by omega)
 rw [hs] at this
 simpa using this
set_option maxHeartbeats 1000000 in
theorem emptyTU_any (w:World)(P n:Nat)(h:w.cell? ⟨P,7,none⟩=some (.int .i64 n)) :
  Calls Tryz.prog 84 #[.pointer (some ⟨P,5,none⟩)] w fun e w'=>e= .returned (.bool (decide (n=0)))/\w'=w:=by
 go_enter Tryz.func84,Tryz.ntmps84
 go_wp2_with fail
 go_ret
 exact⟨by first | rfl | (congr 2;by_cases e:n=0<;>simp [e]),rfl⟩
end Go.Proofs.YtgdcjccbdmcebabGreatDoor
