import Derived.Test.YtgdcjccbdmcebabGreatDoorM02
set_option linter.unusedSimpArgs false
set_option linter.unusedVariables false
namespace Go.Proofs.YtgdcjccbdmcebabGreatDoor
open Go.RowKit
set_option maxRecDepth 100000
theorem flat_len {α:Type}{f:α->List Value}{k:Nat}(hf:∀x,(f x).length=k)(l:List α):(l.flatMap f).length=l.length * k:=by
 induction l with
 | nil=>simp
 | cons a l ih=>rw [List.flatMap_cons,List.length_append,ih,hf,List.length_cons,Nat.add_mul];omega
theorem flat_at {α:Type}{z:α}{f:α->List Value}{k:Nat}(hf:∀x,(f x).length=k)(l:List α){i j:Nat}(hi:i<l.length)(hj:j<k):(l.flatMap f)[i * k+j]? =(f (l.getD i z))[j]? :=by
 induction l generalizing i with
 | nil=>simp at hi
 | cons a l ih =>
  rw [List.flatMap_cons]
  cases i with
  | zero=>rw [List.getElem?_append_left (by rw [hf];omega)];simp
  | succ i =>
   rw [List.getElem?_append_right (by rw [hf,Nat.add_mul];omega),hf]
   rw [show (i+1) * k+j - k=i * k+j by rw [Nat.add_mul];omega,ih (by simpa using hi)]
   simp
theorem flat_set {α:Type}{z:α}{f:α->List Value}{k:Nat}(hf:∀x,(f x).length=k)(l:List α){i j:Nat}(hi:i<l.length)(hj:j<k){g:α->α}{v:Value}(hg:f (g (l.getD i z))=(f (l.getD i z)).set j v) :
  (l.flatMap f).set (i * k+j) v=(l.modify i g).flatMap f:=by
 induction l generalizing i with
 | nil=>simp at hi
 | cons a l ih =>
  cases i with
  | zero =>
   simp only [List.getD_cons_zero] at hg
   rw [List.modify_zero_cons,List.flatMap_cons,List.flatMap_cons,hg,Nat.zero_mul,Nat.zero_add,List.set_append_left _ _ (by rw [hf];exact hj)]
  | succ i =>
   simp only [List.getD_cons_succ] at hg
   rw [List.modify_succ_cons,List.flatMap_cons,List.flatMap_cons,List.set_append_right _ _ (by rw [hf,Nat.add_mul];omega),hf]
   rw [show (i+1) * k+j - k=i * k+j by rw [Nat.add_mul];omega,ih (by simpa using hi) hg]
abbrev RowAt {α:Type}(w:World)(B:Nat)(e:TypeId)(k:Nat)(f:α->List Value)(a:Option Addr)(c:Nat)(l:List α):Prop:=w.ownsRow B e k (.slice a l.length c) l.length (l.flatMap f)
theorem Zdl {α:Type}{w:World}{B:Nat}{e:TypeId}{k:Nat}{f:α->List Value}{a:Option Addr}{c:Nat}{l:List α}(h:RowAt w B e k f a c l)(hn:0<l.length) :
  ∃g cur,a=some ⟨g,0,none⟩/\B<=g/\g<w.heap.size/\l.length<=c/\c<=maxLen/\w.heap[g]? =some (.cells cur e (0,0)):=by
 rcases h.2 with⟨_,h2⟩ | ⟨g,cap,cur,h2,hg,hh,h3,h4,h5,h6⟩
 ·omega
 ·obtain⟨h7,_,h8⟩:a=some ⟨g,0,none⟩/\l.length=l.length/\c=cap:=by simpa using h2
  subst h7 h8
  exact⟨g,cur,rfl,hg,(Array.getElem?_eq_some_iff.1 hh).1,h3,h4,hh⟩
theorem row_cell {α:Type}{z:α}{w:World}{B:Nat}{e:TypeId}{k:Nat}{f:α->List Value}{g c:Nat}{l:List α}(h:RowAt w B e k f (some ⟨g,0,none⟩) c l)(hf:∀x,(f x).length=k){i j:Nat}(hi:i<l.length)(hj:j<k) :
  w.cell? ⟨g,i * k+j,none⟩=(f (l.getD i z))[j]? :=by
 rw [h.cellAt (i * k+j) (by have:=Nat.mul_le_mul_right k (show i+1<=l.length by omega);rw [Nat.add_mul] at this;omega),flat_at hf l hi hj]
theorem row_frozen {α:Type}{w:World}{B:Nat}{e:TypeId}{k:Nat}{f:α->List Value}{g c:Nat}{l:List α}(h:RowAt w B e k f (some ⟨g,0,none⟩) c l)(j:Nat):w.frozen? ⟨g,j,none⟩=false:=h.frozenAt j
theorem row_set {α:Type}{z:α}{w:World}{B:Nat}{e:TypeId}{k:Nat}{f:α->List Value}{g c:Nat}{l:List α}(h:RowAt w B e k f (some ⟨g,0,none⟩) c l)(hf:∀x,(f x).length=k){i j:Nat}(hi:i<l.length)(hj:j<k){t:α->α}{v:Value}(ht:f (t (l.getD i z))=(f (l.getD i z)).set j v) :
  RowAt (w.setCell ⟨g,i * k+j,none⟩ v) B e k f (some ⟨g,0,none⟩) c (l.modify i t):=by
 have:=(h.stored (i * k+j) v).1
 rw [flat_set hf l hi hj ht] at this
 unfold RowAt
 rw [List.length_modify]
 exact this
theorem Zad {w:World}{B:Nat}{e t:TypeId}{size n:Nat}{v:Value}{xs:List Value}(h:w.ownsRow B e size v n xs){g o:Nat}{cur:Array Value}{fr:Nat×Nat}(hg:w.heap[g]? =some (.cells cur t fr))(he:e≠t)(u:Value):(w.setCell ⟨g,o,none⟩ u).ownsRow B e size v n xs:=by
 obtain⟨h1,h2⟩:=h
 refine⟨h1,?_⟩
 rcases h2 with h2 | ⟨g2,cap,c2,hv,hb,hh,r⟩
 ·exact Or.inl h2
 ·refine Or.inr ⟨g2,cap,c2,hv,hb,?_,r⟩
  rw [Below.heap_setCell _ _ _ _ ?_]
  ·exact hh
  ·intro e2
   subst e2
   rw [hg] at hh
   simp only [Option.some.injEq,Obj.cells.injEq] at hh
   exact he hh.2.1.symm
theorem Zcu {w:World}{B:Nat}{e:TypeId}{size n g2 c:Nat}{xs:List Value}(h:w.ownsRow B e size (.slice (some ⟨g2,0,none⟩) n c) n xs){g o:Nat}(he:g2≠g)(u:Value):(w.setCell ⟨g,o,none⟩ u).ownsRow B e size (.slice (some ⟨g2,0,none⟩) n c) n xs:=by
 refine h.kept (row:=some g) ⟨rfl,rfl,rfl,by simp [World.setCell],fun k _ hk=>Below.heap_setCell _ _ _ _ (fun x=>hk (by rw [x]))⟩ (Or.inr ?_)
 simp [Value.ownBlock,he]
theorem Zak {w:World}{g g':Nat}{c c':Array Value}{t t':TypeId}{f f':Nat×Nat}(h:w.heap[g]? =some (.cells c t f))(h':w.heap[g']? =some (.cells c' t' f'))(ht:t≠t'):g≠g':=by
 intro e
 subst e
 rw [h] at h'
 simp only [Option.some.injEq,Obj.cells.injEq] at h'
 exact ht h'.2.1
theorem Zac {w:World}{g o:Nat}{c:Array Value}{t:TypeId}{f:Nat×Nat}(h:w.heap[g]? =some (.cells c t f))(v:Value):(w.setCell ⟨g,o,none⟩ v).heap[g]? =some (.cells (c.setIfInBounds o v) t f):=by
 simp [World.setCell,Array.getElem?_modify,h]
theorem getD_modify {α:Type}{z:α}(l:List α)(i j:Nat)(f:α->α)(hj:j<l.length):(l.modify i f).getD j z=if i=j then f (l.getD j z) else l.getD j z:=by
 simp only [List.getD_eq_getElem?_getD,List.getElem?_modify,List.getElem?_eq_getElem hj,Option.getD_some]
 split<;>rfl
theorem heap_setsG (g:Nat)(e:TypeId):∀(vs:List Value) (o:Nat) (w:World) (cur:Array Value),w.heap[g]? =some (.cells cur e (0,0))->o+vs.length<=cur.size->∃cur',(w.setCells g o vs).heap[g]? =some (.cells cur' e (0,0))/\cur'.size=cur.size/\cur'.toList=cur.toList.take o++vs++cur.toList.drop (o+vs.length)
 | [],o,w,cur,h,_=>⟨cur,h,rfl,by simp⟩
 | v::r,o,w,cur,h,hl=>by
  have h2:(w.setCell ⟨g,o,none⟩ v).heap[g]? =some (.cells (cur.setIfInBounds o v) e (0,0)):=by
   simp [World.setCell,Array.getElem?_modify,h]
  obtain⟨cur',h3,h4,h5⟩:=heap_setsG g e r (o+1) (w.setCell ⟨g,o,none⟩ v) (cur.setIfInBounds o v) h2 (by simp at hl ⊢;omega)
  refine⟨cur',h3,by simpa using h4,?_⟩
  simp only [List.length_cons] at hl ⊢
  have ho:o<cur.toList.length:=by simp;omega
  rw [h5,Array.toList_setIfInBounds,List.take_set,List.take_add_one,List.getElem?_eq_getElem ho,Option.toList_some,List.set_append_right _ _ (by simp;omega),List.drop_set_of_lt (by omega)]
  have:o - (List.take o cur.toList).length=0:=by simp;omega
  rw [this,show o+(r.length+1)=o+1+r.length by omega]
  simp
theorem setsG_keep (w:World)(g o:Nat)(vs:List Value):(w.setCells g o vs).heap.size=w.heap.size/\(w.setCells g o vs).os=w.os/\(w.setCells g o vs).tape=w.tape/\(w.setCells g o vs).output=w.output:=by
 induction vs generalizing o w with
 | nil=>exact⟨rfl,rfl,rfl,rfl⟩
 | cons v r ih =>
  obtain⟨h1,h2,h3,h4⟩:=ih (w.setCell ⟨g,o,none⟩ v) (o+1)
  rw [World.setCells]
  exact⟨by rw [h1];simp [World.setCell],h2,h3,h4⟩
theorem setsG_ne (g k:Nat)(hk:k≠g):∀(vs:List Value) (o:Nat) (w:World),(w.setCells g o vs).heap[k]? =w.heap[k]?
 | [],_,_=>rfl
 | v::r,o,w=>by rw [World.setCells,setsG_ne g k hk r];exact Below.heap_setCell w ⟨g,o,none⟩ v k hk
theorem flat_take {α:Type}{f:α->List Value}{k:Nat}(hf:∀x,(f x).length=k)(l:List α)(i:Nat):(l.flatMap f).take (i * k)=(l.take i).flatMap f:=by
 induction l generalizing i with
 | nil=>simp
 | cons a l ih =>
  cases i with
  | zero=>simp
  | succ i=>rw [List.flatMap_cons,List.take_succ_cons,List.flatMap_cons,List.take_append,hf,List.take_of_length_le (by rw [hf,Nat.add_mul];omega),show (i+1) * k - k=i * k by rw [Nat.add_mul];omega,ih]
theorem flat_drop {α:Type}{f:α->List Value}{k:Nat}(hf:∀x,(f x).length=k)(l:List α)(i:Nat):(l.flatMap f).drop (i * k)=(l.drop i).flatMap f:=by
 induction l generalizing i with
 | nil=>simp
 | cons a l ih =>
  cases i with
  | zero=>simp
  | succ i=>rw [List.flatMap_cons,List.drop_succ_cons,List.drop_append,hf,List.drop_of_length_le (by rw [hf,Nat.add_mul];omega),show (i+1) * k - k=i * k by rw [Nat.add_mul];omega,ih];rfl
theorem row_sets {α:Type}{z:α}{w:World}{B:Nat}{e:TypeId}{k:Nat}{f:α->List Value}{g c:Nat}{l:List α}(h:RowAt w B e k f (some ⟨g,0,none⟩) c l)(hf:∀x,(f x).length=k){i:Nat}(hi:i<l.length)(x:α) :
  RowAt (w.setCells g (i * k) (f x)) B e k f (some ⟨g,0,none⟩) c (l.set i x):=by
 rcases h.2 with⟨h2,_⟩ | ⟨g',cap,cur,h2,hg,hh,h3,h4,h5,h6⟩
 ·cases h2
 ·obtain⟨rfl,rfl⟩:g=g'/\c=cap:=by simpa using h2
  have hpk:i * k+k<=l.length * k:=by have:=Nat.mul_le_mul_right k (show i+1<=l.length by omega);rw [Nat.add_mul] at this;omega
  have hnk:l.length * k<=c * k:=Nat.mul_le_mul_right _ h3
  obtain⟨cur',k1,k2,k3⟩:=heap_setsG g e (f x) (i * k) w cur hh (by rw [hf];omega)
  unfold RowAt
  rw [List.length_set]
  refine⟨by rw [flat_len hf,List.length_set],Or.inr ⟨g,c,cur',rfl,hg,k1,h3,h4,by omega,?_⟩⟩
  have e0:(l.set i x).flatMap f=(l.flatMap f).take (i * k)++f x++(l.flatMap f).drop (i * k+k):=by
   rw [flat_take hf,show i * k+k=(i+1) * k by rw [Nat.add_mul];omega,flat_drop hf,List.set_eq_take_append_cons_drop,if_pos hi,List.flatMap_append,List.flatMap_cons,List.append_assoc]
  rw [e0,<-h6,k3,hf]
  have e1:(cur.toList.take (l.length * k)).take (i * k)=cur.toList.take (i * k):=by rw [List.take_take,Nat.min_eq_left (by omega)]
  have hik:i * k<=cur.size:=by omega
  have e2:(cur.toList.take (i * k)++f x).length=i * k+k:=by rw [List.length_append,List.length_take,Array.length_toList,hf,Nat.min_eq_left hik]
  rw [e1,List.take_append,List.take_of_length_le (by rw [e2];omega),e2,List.drop_take]
theorem modify_const {α:Type}(l:List α)(i:Nat)(x:α):l.modify i (fun _=>x)=l.set i x:=by
 apply List.ext_getElem?
 intro j
 rw [List.getElem?_modify,List.getElem?_set]
 by_cases e:i=j
 ·subst e
  simp only [if_true]
  by_cases h:i<l.length
  ·rw [List.getElem?_eq_getElem h,if_pos h];rfl
  ·rw [List.getElem?_eq_none (by omega),if_neg h];rfl
 ·simp only [if_neg e]
  cases l[j]? <;>rfl
structure NdM where
 bu:Int
 cl:Int
 be:Int
 ba:Int
 ca:Int
 ji:Int
 aa:Option Addr
 ac:Nat
 af:List Int
 st:Int
 tries:Int
 tok:Int
def NdM.z:NdM:=⟨0,0,0,0,0,0,none,0,[],0,0,0⟩
def knV (n:NdM):List Value:=[.int .i64 n.bu, .int .i64 n.cl, .int .i64 n.be, .int .i64 n.ba, .int .i64 n.ca, .int .i64 n.ji, .slice n.aa n.af.length n.ac, .int .i64 n.st, .int .i64 n.tries, .int .u64 n.tok]
theorem knV_len (n:NdM):(knV n).length=10:=rfl
structure RnM where
 b:Nat
 id:Int
 st:Int
 ng:Nat
 nc:Nat
 ns:List NdM
def RnM.z:RnM:=⟨0,0,0,0,0,[]⟩
def RnM.at_ (r:RnM)(k:Nat):NdM:=r.ns.getD k .z
def RnM.onNd (r:RnM)(k:Nat)(f:NdM->NdM):RnM:={ r with ns:=r.ns.modify k f }
theorem RnM.onNd_len (r:RnM)(k:Nat)(f:NdM->NdM):(r.onNd k f).ns.length=r.ns.length:=by simp [RnM.onNd]
theorem RnM.onNd_at (r:RnM)(k j:Nat)(f:NdM->NdM)(hj:j<r.ns.length):(r.onNd k f).at_ j=if k=j then f (r.at_ j) else r.at_ j:=getD_modify (z:=NdM.z) _ _ _ _ hj
def rnC (r:RnM):Array Value:=#[.int .u64 r.id, .int .i64 r.st, .slice (some ⟨r.ng,0,none⟩) r.ns.length r.nc]
def rnP (r:RnM):List Value:=[.pointer (some ⟨r.b,0,none⟩)]
theorem rnP_len (r:RnM):(rnP r).length=1:=rfl
def afV (l:List Int):List Value:=l.map (fun x=> .int .i64 x)
def AfAt (w:World)(B:Nat)(n:NdM):Prop:=w.ownsRow B 3 1 (.slice n.aa n.af.length n.ac) n.af.length (afV n.af)
structure RnAt (w:World)(B:Nat)(r:RnM):Prop where
 top:w.heap[r.b]? =some (.cells (rnC r) 178 (0,0))
 bb:B<=r.b
 row:RowAt w B 189 10 knV (some ⟨r.ng,0,none⟩) r.nc r.ns
 aft:∀k,k<r.ns.length->AfAt w B (r.at_ k)
 some_:1<=r.ns.length
 few:r.ns.length<=12
structure RnF (w w':World)(b g:Nat):Prop where
 os:w'.os=w.os
 tape:w'.tape=w.tape
 output:w'.output=w.output
 size:w.heap.size<=w'.heap.size
 block:∀k,k<w.heap.size->k≠b->k≠g->w'.heap[k]? =w.heap[k]?
theorem RnF.of_below {w w':World}(b g:Nat)(h:Below w.heap.size w w'):RnF w w' b g:=⟨h.os,h.tape,h.output,h.size,fun k hk _ _=>h.block k hk⟩
theorem RnF.trans {x y z:World}{b g:Nat}(h:RnF x y b g)(k:RnF y z b g):RnF x z b g :=
 ⟨k.os.trans h.os,k.tape.trans h.tape,k.output.trans h.output,Nat.le_trans h.size k.size,fun j hj h1 h2=>(k.block j (Nat.lt_of_lt_of_le hj h.size) h1 h2).trans (h.block j hj h1 h2)⟩
theorem RnF.setB (w:World)(b g o:Nat)(v:Value):RnF w (w.setCell ⟨b,o,none⟩ v) b g:=⟨rfl,rfl,rfl,by simp [World.setCell],fun k _ h1 _=>Below.heap_setCell w ⟨b,o,none⟩ v k h1⟩
theorem RnF.setG (w:World)(b g o:Nat)(v:Value):RnF w (w.setCell ⟨g,o,none⟩ v) b g:=⟨rfl,rfl,rfl,by simp [World.setCell],fun k _ _ h2=>Below.heap_setCell w ⟨g,o,none⟩ v k h2⟩
theorem RnAt.keepT {w w':World}{B:Nat}{r:RnM}(h:RnAt w B r)(hb:∀k cs t fr,B<=k->w.heap[k]? =some (.cells cs t fr)->(t=178\/t=189\/t=3)->w'.heap[k]? =w.heap[k]?):RnAt w' B r:=by
 have hk:∀{e:TypeId} {size n:Nat} {v:Value} {xs:List Value},(e=178\/e=189\/e=3)->w.ownsRow B e size v n xs->w'.ownsRow B e size v n xs:=by
  intro e size n v xs he ho
  refine⟨ho.1,?_⟩
  rcases ho.2 with h2 | ⟨g,cap,cur,rfl,hg,hh,hr⟩
  ·exact Or.inl h2
  ·exact Or.inr ⟨g,cap,cur,rfl,hg,(hb g cur e (0,0) hg hh he).trans hh,hr⟩
 exact⟨(hb r.b _ _ _ h.bb h.top (Or.inl rfl)).trans h.top,h.bb,hk (Or.inr (Or.inl rfl)) h.row,fun k hk'=>hk (Or.inr (Or.inr rfl)) (h.aft k hk'),h.some_,h.few⟩
theorem RnAt.below {w w':World}{B:Nat}{r:RnM}(h:RnAt w B r)(hb:Below w.heap.size w w'):RnAt w' B r :=
 h.keepT (fun k _ _ _ _ e _=>hb.block k (Array.getElem?_eq_some_iff.1 e).1)
theorem RnAt.lt {w:World}{B:Nat}{r:RnM}(h:RnAt w B r):r.b<w.heap.size:=(Array.getElem?_eq_some_iff.1 h.top).1
theorem RnAt.rowBlk {w:World}{B:Nat}{r:RnM}(h:RnAt w B r):∃cur,w.heap[r.ng]? =some (.cells cur 189 (0,0))/\r.ns.length<=r.nc/\r.nc<=maxLen/\B<=r.ng/\r.ng<w.heap.size:=by
 obtain⟨g,cur,hg,h1,h2,h3,h4,hh⟩:=Zdl h.row (by have:=h.some_;omega)
 obtain rfl:r.ng=g:=by simpa using hg
 exact⟨cur,hh,h3,h4,h1,h2⟩
theorem RnAt.cell {w:World}{B:Nat}{r:RnM}(h:RnAt w B r){k j:Nat}(hk:k<r.ns.length)(hj:j<10):w.cell? ⟨r.ng,k * 10+j,none⟩=(knV (r.at_ k))[j]? :=row_cell (z:=NdM.z) h.row knV_len hk hj
theorem RnAt.froz {w:World}{B:Nat}{r:RnM}(h:RnAt w B r)(j:Nat):w.frozen? ⟨r.ng,j,none⟩=false:=row_frozen h.row j
structure NdC (w:World)(g o:Nat)(n:NdM):Prop where
 c0:w.cell? ⟨g,o,none⟩=some (.int .i64 n.bu)
 c1:w.cell? ⟨g,o+1,none⟩=some (.int .i64 n.cl)
 c2:w.cell? ⟨g,o+2,none⟩=some (.int .i64 n.be)
 c3:w.cell? ⟨g,o+3,none⟩=some (.int .i64 n.ba)
 c4:w.cell? ⟨g,o+4,none⟩=some (.int .i64 n.ca)
 c5:w.cell? ⟨g,o+5,none⟩=some (.int .i64 n.ji)
 c6:w.cell? ⟨g,o+6,none⟩=some (.slice n.aa n.af.length n.ac)
 c7:w.cell? ⟨g,o+7,none⟩=some (.int .i64 n.st)
 c8:w.cell? ⟨g,o+8,none⟩=some (.int .i64 n.tries)
 c9:w.cell? ⟨g,o+9,none⟩=some (.int .u64 n.tok)
theorem RnAt.nd {w:World}{B:Nat}{r:RnM}(h:RnAt w B r){k:Nat}(hk:k<r.ns.length):NdC w r.ng (k * 10) (r.at_ k) :=
 ⟨h.cell hk (j:=0) (by omega),h.cell hk (j:=1) (by omega),h.cell hk (j:=2) (by omega),h.cell hk (j:=3) (by omega),h.cell hk (j:=4) (by omega),h.cell hk (j:=5) (by omega),h.cell hk (j:=6) (by omega),h.cell hk (j:=7) (by omega),h.cell hk (j:=8) (by omega),h.cell hk (j:=9) (by omega)⟩
theorem RnAt.topC {w:World}{B:Nat}{r:RnM}(h:RnAt w B r):(w.cell? ⟨r.b,0,none⟩=some (.int .u64 r.id)/\w.cell? ⟨r.b,1,none⟩=some (.int .i64 r.st)/\w.cell? ⟨r.b,2,none⟩=some (.slice (some ⟨r.ng,0,none⟩) r.ns.length r.nc))/\∀j,w.frozen? ⟨r.b,j,none⟩=false:=by
 refine⟨⟨?_,?_,?_⟩,fun j=> ?_⟩
 ·unfold World.cell?;rw [h.top];rfl
 ·unfold World.cell?;rw [h.top];rfl
 ·unfold World.cell?;rw [h.top];rfl
 ·simp [World.frozen?,h.top]
theorem RnAt.setNd {w:World}{B:Nat}{r:RnM}(h:RnAt w B r){k j:Nat}(hk:k<r.ns.length)(hj:j<10){f:NdM->NdM}{v:Value}(hf:knV (f (r.at_ k))=(knV (r.at_ k)).set j v)(haf:(f (r.at_ k)).aa=(r.at_ k).aa/\(f (r.at_ k)).ac=(r.at_ k).ac/\(f (r.at_ k)).af=(r.at_ k).af) :
  RnAt (w.setCell ⟨r.ng,k * 10+j,none⟩ v) B (r.onNd k f):=by
 obtain⟨cur,hh,_⟩:=h.rowBlk
 refine⟨?_,h.bb,row_set (z:=NdM.z) h.row knV_len hk hj hf,fun m hm=> ?_,by rw [r.onNd_len];exact h.some_,by rw [r.onNd_len];exact h.few⟩
 ·show (w.setCell ⟨r.ng,k * 10+j,none⟩ v).heap[r.b]? =_
  rw [Below.heap_setCell _ _ _ _ (Zak h.top hh (by decide)),h.top]
  unfold rnC
  rw [r.onNd_len];rfl
 ·rw [r.onNd_len] at hm
  have ha:=Zad (h.aft m hm) hh (by decide) v (o:=k * 10+j)
  unfold AfAt
  rw [r.onNd_at _ _ _ hm]
  by_cases e:k=m
  ·subst e
   rw [if_pos rfl,haf.1,haf.2.1,haf.2.2]
   exact ha
  ·rw [if_neg e];exact ha
theorem RnAt.setAll {w w':World}{B:Nat}{r:RnM}(h:RnAt w B r){k:Nat}(hk:k<r.ns.length)(n:NdM)(hn:n.aa=none/\n.ac=0/\n.af=[])(hw:w'=w.setCells r.ng (k * 10) (knV n)) :
  RnAt w' B (r.onNd k (fun _=>n))/\RnF w w' r.b r.ng:=by
 subst hw
 obtain⟨cur,hh,q1,q2,q3,q4⟩:=h.rowBlk
 have hne:∀j,j≠r.ng->(w.setCells r.ng (k * 10) (knV n)).heap[j]? =w.heap[j]? :=fun j hj=>setsG_ne r.ng j hj _ _ _
 obtain⟨s1,s2,s3,s4⟩:=setsG_keep w r.ng (k * 10) (knV n)
 refine⟨⟨?_,h.bb,?_,fun m hm=> ?_,by rw [r.onNd_len];exact h.some_,by rw [r.onNd_len];exact h.few⟩,⟨s2,s3,s4,by rw [s1];exact Nat.le_refl _,fun j _ _ hj=>hne j hj⟩⟩
 ·show (w.setCells r.ng (k * 10) (knV n)).heap[r.b]? =_
  rw [hne _ (Zak h.top hh (by decide)),h.top]
  unfold rnC
  rw [r.onNd_len];rfl
 ·have:=row_sets (z:=NdM.z) h.row knV_len hk n
  show RowAt _ B _ 10 knV _ _ (r.ns.modify k (fun _=>n))
  rw [modify_const]
  exact this
 ·rw [r.onNd_len] at hm
  unfold AfAt
  rw [r.onNd_at _ _ _ hm]
  by_cases e:k=m
  ·subst e
   rw [if_pos rfl,hn.1,hn.2.1,hn.2.2]
   exact World.ownsRow_nil _ _ _ _
  ·rw [if_neg e]
   have ha:=h.aft m hm
   refine⟨ha.1,?_⟩
   rcases ha.2 with h2 | ⟨g,cap,c2,h2,hg,h3,hr⟩
   ·exact Or.inl h2
   ·exact Or.inr ⟨g,cap,c2,h2,hg,(hne g (Zak h3 hh (by decide))).trans h3,hr⟩
theorem RnAt.setSt {w:World}{B:Nat}{r:RnM}(h:RnAt w B r)(st:Int):RnAt (w.setCell ⟨r.b,1,none⟩ (.int .i64 st)) B { r with st:=st }:=by
 refine⟨by rw [Zac h.top];rfl,h.bb,Zad h.row h.top (by decide) _,fun k hk=>Zad (h.aft k hk) h.top (by decide) _,h.some_,h.few⟩
end Go.Proofs.YtgdcjccbdmcebabGreatDoor
namespace Go.Proofs.YtgdcjccbdmcebabGreatDoor
open Go.RowKit
set_option maxRecDepth 100000
attribute [local go_sem ↓] Go.wp_at_zero Go.wp_at_succ
def RnM.outc (r:RnM):Int:=if r.ns.all (fun n=>n.st == 5||n.st == 6||n.st == 7) then (if r.ns.all (fun n=>n.st == 5) then 2 else 3) else 1
theorem take_all {r:RnM}{p:NdM->Bool}{i:Nat}(hi:i<r.ns.length):(r.ns.take (i+1)).all p=((r.ns.take i).all p&&p (r.at_ i)):=by
 rw [List.take_add_one,List.getElem?_eq_getElem hi,List.all_append]
 congr 1
 simp [RnM.at_,List.getD_eq_getElem?_getD,List.getElem?_eq_getElem hi]
theorem not_all {r:RnM}{p:NdM->Bool}{i:Nat}(hi:i<r.ns.length)(h:p (r.at_ i)=false):r.ns.all p=false:=by
 rw [List.all_eq_false]
 refine⟨r.at_ i,?_,by simp [h]⟩
 simp [RnM.at_,List.getD_eq_getElem?_getD,List.getElem?_eq_getElem hi]
def outT (l:List NdM):Int:=if l.all (fun n=>n.st == 5) then 2 else 3
set_option maxHeartbeats 4000000 in
theorem outcome_any (w:World)(B:Nat)(r:RnM)(h:RnAt w B r) :
  Calls Tryz.prog 143 #[.pointer (some ⟨r.b,0,none⟩)] w fun e w'=>e= .returned (.int .i64 r.outc)/\Below w.heap.size w w':=by
 have H:=Hid.mk h
 have HB:=Hid.mk (Below.refl w.heap.size w)
 obtain⟨⟨c0,c1,c2⟩,_⟩:=h.topC
 obtain⟨_,_,hnc,hcm,_,_⟩:=h.rowBlk
 have h12:=h.few
 obtain⟨m,hm⟩:∃m,m=r.ns.length:=⟨_,rfl⟩
 rw [<-hm] at c2 hnc h12
 have HM:=Hid.mk hm
 clear h hm c0 c1 hcm
 go_enter Tryz.func143,Tryz.ntmps143
 go_wp2_with fail
 go_loopw [3,11] (fun sv iv wr=>∃i:Nat,iv= .int .i64 i/\sv= .int .i64 (outT (r.ns.take i))/\i<=m/\Below w.heap.size w wr/\(r.ns.take i).all (fun n=>n.st == 5||n.st == 6||n.st == 7)=true) (fun _ iv _=>m - (intOf iv).toNat)
 case atStart=>exact⟨0,rfl,by simp [outT],by omega,HB.out,by simp⟩
 case round =>
  obtain⟨i,rfl,rfl,hi,hbl,hall⟩:=hrel
  have HBL:=Hid.mk hbl
  have HALL:=Hid.mk hall
  clear hall hbl
  by_cases h1:i<m
  ·have hR:=H.out.below HBL.out
   obtain⟨t0,t1,t2,t3,t4,t5,t6,t7,t8,t9⟩:=hR.nd (k:=i) (by have:=HM.out;omega)
   have hat:=take_all (r:=r) (p:=fun n=>n.st == 5||n.st == 6||n.st == 7) (i:=i) (by have:=HM.out;omega)
   have hat5:=take_all (r:=r) (p:=fun n=>n.st == 5) (i:=i) (by have:=HM.out;omega)
   have hno:=not_all (r:=r) (p:=fun n=>n.st == 5||n.st == 6||n.st == 7) (i:=i) (by have:=HM.out;omega)
   generalize r.at_ i=n at *
   have HN:=Hid.mk (And.intro hat (And.intro hat5 hno))
   have i1:(i:Int)<(m:Int):=by omega
   clear hat hat5 hno hR
   by_cases q5:n.st=5
   ·have g1:(n.st == 5)=true:=by simpa using q5
    have HQ:=Hid.mk q5
    go_wp2_with fail
    go_roundw
    case rel=>exact⟨i+1,by go_num,by unfold outT;rw [HN.out.2.1,HQ.out];simp,by omega,HBL.out.alloc HBL.out.size _,by rw [HN.out.1,HALL.out,HQ.out];rfl⟩
    case measure=>simp [intOf];omega
   ·by_cases q6:n.st=6
    ·have HQ:=Hid.mk q6
     go_wp2_with fail
     go_roundw
     case rel=>exact⟨i+1,by go_num,by unfold outT;rw [HN.out.2.1,HQ.out];simp,by omega,HBL.out.alloc HBL.out.size _,by rw [HN.out.1,HALL.out,HQ.out];rfl⟩
     case measure=>simp [intOf];omega
    ·by_cases q7:n.st=7
     ·have HQ:=Hid.mk q7
      go_wp2_with fail
      go_roundw
      case rel=>exact⟨i+1,by go_num,by unfold outT;rw [HN.out.2.1,HQ.out];simp,by omega,HBL.out.alloc HBL.out.size _,by rw [HN.out.1,HALL.out,HQ.out];rfl⟩
      case measure=>simp [intOf];omega
     ·have HQ:=Hid.mk (And.intro q5 (And.intro q6 q7))
      have g5:decide (n.st=5)=false:=decide_eq_false q5
      have g6:decide (n.st=6)=false:=decide_eq_false q6
      have g7:decide (n.st=7)=false:=decide_eq_false q7
      have g5':(n.st == 5)=false:=by simpa using q5
      have g6':(n.st == 6)=false:=by simpa using q6
      have g7':(n.st == 7)=false:=by simpa using q7
      clear q5 q6 q7
      go_wp2_with fail
      go_ret
      have hx:=HN.out.2.2 (by have:=HQ.out;simp [this.1,this.2.1,this.2.2])
      refine⟨?_,HBL.out.alloc HBL.out.size _⟩
      unfold RnM.outc
      rw [if_neg (by rw [hx];simp)]
      rfl
  ·have e:i=m:=by omega
   have HE:=Hid.mk e
   have i1:¬(i:Int)<(m:Int):=by omega
   clear e h1
   go_wp2_with fail
   go_ret
   have h1:=HALL.out
   have ht:r.ns.take i=r.ns:=List.take_of_length_le (by have:=HM.out;have:=HE.out;omega)
   rw [ht] at h1 ⊢
   refine⟨?_,HBL.out⟩
   unfold RnM.outc
   rw [if_pos h1]
   rfl
end Go.Proofs.YtgdcjccbdmcebabGreatDoor
