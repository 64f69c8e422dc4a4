import Derived.Test.YtgdcjccbdmcebaaGreatDoorM02
import Derived.ScopeJumps
import Derived.WalkMore
import Derived.Deep.CutRange
import Derived.Deep.LoopGhost
set_option linter.all false
set_option maxHeartbeats 8000000
set_option maxRecDepth 100000
open Bool renaming and_eq_true->QCg,false_eq_true->QCh
open Go.World renaming setCells->QEi,ownsRow_nil->QEj,cell?->QEk,cell?_of_block->QEc,setCell->QDw
open Int renaming toNat_natCast->QEl
open List renaming append_nil->QEm,length_set->QAo,any_eq_true->QEn,countP_cons->QCo,length_cons->QAs,length_take->QBf,take_append->QCr,all_eq_false->QEo,getElem?_map->QEp,take_add_one->QEq,getD_cons_succ->QEr,getD_cons_zero->QEs,getElem_of_mem->QEt,getElem?_modify->QAm,modify_succ_cons->QEu,modify_zero_cons->QEv,set_append_right->QEw,getElem?_append_left->QBg,getElem?_append_right->QBe,take_of_length_le->QCw,flatMap_cons->QDh
open Nat renaming min_eq_left->QEx,mul_le_mul_right->QEy,add_mul->QBi
open Option renaming some.injEq->QCf,getD_some->QCe
namespace Go.Proofs.YtgdcjccbdmcebaaGreatDoor
open Tryz
variable {w w':World}{qh B k j g i c:Nat}{e t:TypeId}{Q:Exit->Act->World->Prop}{v:Value}{xs:List Value}{P:Program}{f:Nat×Nat}{a:Option Addr}{st:Int}
theorem Ev {a:Act}{c rest:Code}(l:Nat)(J:Act->World->Prop)(μ:Act->World->Nat)(hf:findLabel c l=some (Code.skip.seq rest))
  (start:∀R:Exit->Act->World->Prop,(∀a w,J a w->rest.wp P R a w)->c.wp P R a w)
  (pass:∀a w,J a w->rest.wp P (Exit.jump l (fun d w'=>J d w'/\μ d w'<μ a w) Q) a w):(Code.scope c).wp P Q a w :=
 wp_scope_jumps l J μ hf (start _ fun a w b=>wp_mono (pass a w b) fun e a w h=>by
  cases e with
  | goto n=>exact⟨h.1,h.2.1⟩
  | normal=>exact h
  | exit id=>exact h
  | ret=>exact h
  | panic m=>exact h
  | outgrown=>exact h) (fun a w b=>wp_seq (wp_skip (pass a w b)))
theorem Vy {p:Nat->Prop}(h:∃n,p n):∃n,p n/\∀m,p m->n<=m:=by
 obtain⟨n,hn⟩:=h
 induction n using Nat.strongRecOn with
 | _ n o =>
  by_cases d:∃m,m<n/\p m
  .obtain⟨m,b,l⟩:=d
   exact o m b l
  .refine⟨n,hn,fun m hm=> ?_⟩
   rcases Nat.lt_or_ge m n with b | b
   .exact absurd ⟨m,b,hm⟩ d
   .exact b
theorem Hi {a:Act}{c rest:Code}(l:Nat)(J:Nat->Act->World->Prop)(hf:findLabel c l=some (Code.skip.seq rest))
  (start:∀R:Exit->Act->World->Prop,(∀n a w,J n a w->rest.wp P R a w)->c.wp P R a w)
  (pass:∀n a w,J n a w->rest.wp P (Exit.jump l (fun d w'=>∃m,m<n/\J m d w') Q) a w):(Code.scope c).wp P Q a w:=by
 obtain⟨μ,hμ⟩:∃μ:Act->World->Nat,∀a w,(∃n,J n a w)->J (μ a w) a w/\∀m,J m a w->μ a w<=m:=by
  refine Classical.skolem (p:=fun a (f:World->Nat)=>∀w,(∃n,J n a w)->J (f w) a w/\∀m,J m a w->f w<=m) |>.1 (fun a=> ?_)
  refine Classical.skolem (p:=fun w (k:Nat)=>(∃n,J n a w)->J k a w/\∀m,J m a w->k<=m) |>.1 (fun w=> ?_)
  by_cases h:∃n,J n a w
  .obtain⟨n,o,b⟩:=Vy h
   exact⟨n,fun _=>⟨o,b⟩⟩
  .exact⟨0,fun b=>absurd b h⟩
 refine Ev l (fun a w=>∃n,J n a w) μ hf (fun R r=>start R (fun n a w q=>r a w ⟨n,q⟩)) (fun a w q=> ?_);obtain⟨o,b⟩:=hμ a w q;refine wp_mono (pass _ a w o) fun e d w' h=> ?_
 cases e with
 | goto u =>
  obtain⟨g1,m,g2,g3⟩:=h;exact⟨g1,⟨m,g3⟩,Nat.lt_of_le_of_lt ((hμ d w' ⟨m,g3⟩).2 m g3) g2⟩
 | normal=>exact h
 | exit id=>exact h
 | ret=>exact h
 | panic s=>exact h
 | outgrown=>exact h
open Go.RowKit
theorem Oa {α:Type}{f:α->List Value}(hf:∀x,(f x).length=k)(l:List α):(l.flatMap f).length=l.length * k:=by
 induction l with
 | nil=>simp
 | cons a l b=>rw[QDh,ZX,b,hf,QAs,QBi];omega
theorem Jt {α:Type}{z:α}{f:α->List Value}(hf:∀x,(f x).length=k)(l:List α)(hi:i<l.length)(d:j<k):(l.flatMap f)[i * k+j]? =(f (l.getD i z))[j]? :=by
 induction l generalizing i with
 | nil=>simp at hi
 | cons a l b =>
  rw[QDh]
  cases i with
  | zero=>rw[QBg (by rw[hf];omega)];simp
  | succ i =>
   rw[QBe (by rw[hf,QBi];omega),hf];rw[show (i+1) * k+j - k=i * k+j by rw[QBi];omega,b (by simpa using hi)];simp
theorem UU {α:Type}{z:α}{f:α->List Value}(hf:∀x,(f x).length=k)(l:List α)(hi:i<l.length)(b:j<k){g:α->α}(hg:f (g (l.getD i z))=(f (l.getD i z)).set j v) :
  (l.flatMap f).set (i * k+j) v=(l.modify i g).flatMap f:=by
 induction l generalizing i with
 | nil=>simp at hi
 | cons a l d =>
  cases i with
  | zero =>
   simp only[QEs] at hg;rw[QEv,QDh,QDh,hg,Nat.zero_mul,Nat.zero_add,List.set_append_left _ _ (by rw[hf];exact b)]
  | succ i =>
   simp only[QEr] at hg;rw[QEu,QDh,QDh,QEw _ _ (by rw[hf,QBi];omega),hf];rw[show (i+1) * k+j - k=i * k+j by rw[QBi];omega,d (by simpa using hi) hg]
abbrev BA {α:Type}(w:World)(B:Nat)(e:TypeId)(k:Nat)(f:α->List Value)(a:Option Addr)(c:Nat)(l:List α):Prop:=w.ownsRow B e k (.slice a l.length c) l.length (l.flatMap f)
theorem Zdx {α:Type}{f:α->List Value}{l:List α}(h:BA w B e k f a c l)(hn:0<l.length) :
  ∃g cur,a=some ⟨g,0,none⟩/\B<=g/\g<w.heap.size/\l.length<=c/\c<=maxLen/\w.heap[g]? =some (.cells cur e (0,0)):=by
 rcases h.2 with⟨_,b⟩ | ⟨g,cap,cur,b,hg,hh,d,m,p,q⟩
 .omega
 .obtain⟨n,_,o⟩:a=some ⟨g,0,none⟩/\l.length=l.length/\c=cap:=by simpa using b
  subst n o;exact⟨g,cur,rfl,hg,(Array.getElem?_eq_some_iff.1 hh).1,d,m,hh⟩
theorem DQ {α:Type}{z:α}{f:α->List Value}{l:List α}(h:BA w B e k f (some ⟨g,0,none⟩) c l)(hf:∀x,(f x).length=k)(hi:i<l.length)(b:j<k) :
  w.cell? ⟨g,i * k+j,none⟩=(f (l.getD i z))[j]? :=by
 rw[h.cellAt (i * k+j) (by have:=QEy k (show i+1<=l.length by omega);rw[QBi] at this;omega),Jt hf l hi b]
theorem Gq {α:Type}{f:α->List Value}{l:List α}(h:BA w B e k f (some ⟨g,0,none⟩) c l)(j:Nat):w.frozen? ⟨g,j,none⟩=false:=h.frozenAt j
theorem Zn {α:Type}{z:α}{f:α->List Value}{l:List α}(h:BA w B e k f (some ⟨g,0,none⟩) c l)(hf:∀x,(f x).length=k)(hi:i<l.length)(b:j<k){t:α->α}(d:f (t (l.getD i z))=(f (l.getD i z)).set j v) :
  BA (w.setCell ⟨g,i * k+j,none⟩ v) B e k f (some ⟨g,0,none⟩) c (l.modify i t):=by
 have:=(h.stored (i * k+j) v).1;rw[UU hf l hi b d] at this;unfold BA;rw[List.length_modify];exact this
theorem Zaf {size n:Nat}(h:w.ownsRow B e size v n xs){o:Nat}{cur:Array Value}{fr:Nat×Nat}(hg:w.heap[g]? =some (.cells cur t fr))(he:e≠t)(u:Value):(w.setCell ⟨g,o,none⟩ u).ownsRow B e size v n xs:=by
 obtain⟨l,b⟩:=h;refine⟨l,?_⟩;rcases b with b | ⟨g2,cap,c2,m,hb,hh,r⟩
 .exact Zu b
 .refine Zj ⟨g2,cap,c2,m,hb,?_,r⟩
  rw[Zl _ _ _ _ ?_]
  .exact hh
  .intro d
   subst d;rw[hg] at hh;simp only[QCf,Obj.cells.injEq] at hh;exact he hh.2.1.symm
theorem Zef {size n g2:Nat}(h:w.ownsRow B e size (.slice (some ⟨g2,0,none⟩) n c) n xs){o:Nat}(he:g2≠g)(u:Value):(w.setCell ⟨g,o,none⟩ u).ownsRow B e size (.slice (some ⟨g2,0,none⟩) n c) n xs:=by
 refine h.kept (row:=some g) ⟨rfl,rfl,rfl,by simp[QDw],fun k _ hk=>Zl _ _ _ _ (fun x=>hk (by rw[x]))⟩ (Zj ?_);simp[Value.ownBlock,he]
theorem Zah {d:Nat}{c m:Array Value}{l:TypeId}{n:Nat×Nat}(h:w.heap[g]? =some (.cells c t f))(b:w.heap[d]? =some (.cells m l n))(o:t≠l):g≠d:=by
 intro e;subst e;rw[h] at b;simp only[QCf,Obj.cells.injEq] at b;exact o b.2.1
theorem Zab {o:Nat}{c:Array Value}(h:w.heap[g]? =some (.cells c t f))(v:Value):(w.setCell ⟨g,o,none⟩ v).heap[g]? =some (.cells (c.setIfInBounds o v) t f):=by
 simp[QDw,Array.getElem?_modify,h]
theorem getD_modify {α:Type}{z:α}(l:List α)(i j:Nat)(f:α->α)(b:j<l.length):(l.modify i f).getD j z=if i=j then f (l.getD j z) else l.getD j z:=by
 simp only[ZQ,QAm,ZZ b,QCe]
 split<;>rfl
theorem JR (g:Nat)(e:TypeId):∀(d:List Value) (o:Nat) (w:World) (cur:Array Value),w.heap[g]? =some (.cells cur e (0,0))->o+d.length<=cur.size->∃b,(w.setCells g o d).heap[g]? =some (.cells b e (0,0))/\b.size=cur.size/\b.toList=cur.toList.take o++d++cur.toList.drop (o+d.length)
 | [],o,w,cur,h,_=>⟨cur,h,rfl,by simp⟩
 | v::r,o,w,cur,h,hl=>by
  have l:(w.setCell ⟨g,o,none⟩ v).heap[g]? =some (.cells (cur.setIfInBounds o v) e (0,0)):=by
   simp[QDw,Array.getElem?_modify,h]
  obtain⟨b,m,n,p⟩:=JR g e r (o+1) (w.setCell ⟨g,o,none⟩ v) (cur.setIfInBounds o v) l (by simp at hl ⊢;omega);refine⟨b,m,by simpa using n,?_⟩;simp only[QAs] at hl ⊢;have q:o<cur.toList.length:=by simp;omega
  rw[p,Array.toList_setIfInBounds,List.take_set,QEq,ZZ q,Option.toList_some,QEw _ _ (by simp;omega),List.drop_set_of_lt (by omega)];have:o - (List.take o cur.toList).length=0:=by simp;omega
  rw[this,show o+(r.length+1)=o+1+r.length by omega];simp
theorem QO (w:World)(g o:Nat)(b:List Value):(w.setCells g o b).heap.size=w.heap.size/\(w.setCells g o b).os=w.os/\(w.setCells g o b).tape=w.tape/\(w.setCells g o b).output=w.output:=by
 induction b generalizing o w with
 | nil=>exact⟨rfl,rfl,rfl,rfl⟩
 | cons v r n =>
  obtain⟨d,h,l,m⟩:=n (w.setCell ⟨g,o,none⟩ v) (o+1);rw[QEi];exact⟨by rw[d];simp[QDw],h,l,m⟩
theorem OZ (g k:Nat)(hk:k≠g):∀(b:List Value) (o:Nat) (w:World),(w.setCells g o b).heap[k]? =w.heap[k]?
 | [],_,_=>rfl
 | v::r,o,w=>by rw[QEi,OZ g k hk r];exact Zl w ⟨g,o,none⟩ v k hk
theorem LC {α:Type}{f:α->List Value}(hf:∀x,(f x).length=k)(l:List α)(i:Nat):(l.flatMap f).take (i * k)=(l.take i).flatMap f:=by
 induction l generalizing i with
 | nil=>simp
 | cons a l b =>
  cases i with
  | zero=>simp
  | succ i=>rw[QDh,List.take_succ_cons,QDh,QCr,hf,QCw (by rw[hf,QBi];omega),show (i+1) * k - k=i * k by rw[QBi];omega,b]
theorem SH {α:Type}{f:α->List Value}(hf:∀x,(f x).length=k)(l:List α)(i:Nat):(l.flatMap f).drop (i * k)=(l.drop i).flatMap f:=by
 induction l generalizing i with
 | nil=>simp
 | cons a l b =>
  cases i with
  | zero=>simp
  | succ i=>rw[QDh,List.drop_succ_cons,List.drop_append,hf,List.drop_of_length_le (by rw[hf,QBi];omega),show (i+1) * k - k=i * k by rw[QBi];omega,b];rfl
theorem KA {α:Type}{z:α}{f:α->List Value}{l:List α}(h:BA w B e k f (some ⟨g,0,none⟩) c l)(hf:∀x,(f x).length=k)(hi:i<l.length)(x:α) :
  BA (w.setCells g (i * k) (f x)) B e k f (some ⟨g,0,none⟩) c (l.set i x):=by
 rcases h.2 with⟨d,_⟩ | ⟨q,cap,cur,d,hg,hh,o,r,A,s⟩
 .cases d
 .obtain⟨rfl,rfl⟩:g=q/\c=cap:=by simpa using d
  have y:i * k+k<=l.length * k:=by have:=QEy k (show i+1<=l.length by omega);rw[QBi] at this;omega
  have u:l.length * k<=c * k:=QEy _ o;obtain⟨b,k1,k2,k3⟩:=JR g e (f x) (i * k) w cur hh (by rw[hf];omega);unfold BA;rw[QAo];refine⟨by rw[Oa hf,QAo],Zj ⟨g,c,b,rfl,hg,k1,o,r,by omega,?_⟩⟩
  have e0:(l.set i x).flatMap f=(l.flatMap f).take (i * k)++f x++(l.flatMap f).drop (i * k+k):=by
   rw[LC hf,show i * k+k=(i+1) * k by rw[QBi];omega,SH hf,List.set_eq_take_append_cons_drop,if_pos hi,List.flatMap_append,QDh,List.append_assoc]
  rw[e0,<-s,k3,hf];have p:(cur.toList.take (l.length * k)).take (i * k)=cur.toList.take (i * k):=by rw[List.take_take,QEx (by omega)]
  have m:i * k<=cur.size:=by omega
  have n:(cur.toList.take (i * k)++f x).length=i * k+k:=by rw[ZX,QBf,Array.length_toList,hf,QEx m]
  rw[p,QCr,QCw (by rw[n];omega),n,List.drop_take]
theorem MO {α:Type}(l:List α)(i:Nat)(x:α):l.modify i (fun _=>x)=l.set i x:=by
 apply List.ext_getElem?
 intro j;rw[QAm,List.getElem?_set];by_cases e:i=j
 .subst e
  simp only[if_true];by_cases h:i<l.length
  .rw[ZZ h,if_pos h];rfl
  .rw[List.getElem?_eq_none (by omega),if_neg h];rfl
 .simp only[if_neg e]
  cases l[j]? <;>rfl
structure Cl where
 bu:Int
 cl:Int
 be:Int
 ba:Int
 ca:Int
 ji:Int
 aa:Option Addr
 ac:Nat
 af:List Int
 st:Int
 tries:Int
 tok:Int
def Cl.z:Cl:=⟨0,0,0,0,0,0,none,0,[],0,0,0⟩
def Ny (n:Cl):List Value:=[.int .i64 n.bu,.int .i64 n.cl,.int .i64 n.be,.int .i64 n.ba,.int .i64 n.ca,.int .i64 n.ji,.slice n.aa n.af.length n.ac,.int .i64 n.st,.int .i64 n.tries,.int .u64 n.tok]
theorem MJ (n:Cl):(Ny n).length=10:=rfl
structure Aq where
 b:Nat
 id:Int
 st:Int
 ng:Nat
 nc:Nat
 ns:List Cl
def Aq.z:Aq:=⟨0,0,0,0,0,[]⟩
def Aq.at_ (r:Aq)(k:Nat):Cl:=r.ns.getD k .z
def Aq.BG (r:Aq)(k:Nat)(f:Cl->Cl):Aq:={ r with ns:=r.ns.modify k f }
theorem Aq.AW (r:Aq)(k:Nat)(f:Cl->Cl):(r.BG k f).ns.length=r.ns.length:=by simp[Aq.BG]
theorem Aq.BY (r:Aq)(k j:Nat)(f:Cl->Cl)(b:j<r.ns.length):(r.BG k f).at_ j=if k=j then f (r.at_ j) else r.at_ j:=getD_modify (z:=Cl.z) _ _ _ _ b
def rnC (r:Aq):Array Value:=#[.int .u64 r.id,.int .i64 r.st,.slice (some ⟨r.ng,0,none⟩) r.ns.length r.nc]
def Ln (r:Aq):List Value:=[.pointer (some ⟨r.b,0,none⟩)]
theorem Dg (r:Aq):(Ln r).length=1:=rfl
def afV (l:List Int):List Value:=l.map (fun x=> .int .i64 x)
def Mn (qh:Nat)(w:World)(B:Nat)(n:Cl):Prop:=w.ownsRow B 3 1 (.slice n.aa n.af.length n.ac) n.af.length (afV n.af)/\n.aa≠some ⟨qh,0,none⟩
structure AR (qh:Nat)(w:World)(B:Nat)(r:Aq):Prop where
 top:w.heap[r.b]? =some (.cells (rnC r) 272 (0,0))
 bb:B<=r.b
 row:BA w B 276 10 Ny (some ⟨r.ng,0,none⟩) r.nc r.ns
 DW:∀k,k<r.ns.length->Mn qh w B (r.at_ k)
 some_:1<=r.ns.length
 Br:r.ns.length<=12
structure Dm (w w':World)(b g:Nat):Prop where
 os:w'.os=w.os
 tape:w'.tape=w.tape
 output:w'.output=w.output
 size:w.heap.size<=w'.heap.size
 block:∀k,k<w.heap.size->k≠b->k≠g->w'.heap[k]? =w.heap[k]?
theorem Dm.Ae (b g:Nat)(h:ZY w w'):Dm w w' b g:=⟨h.os,h.tape,h.output,h.size,fun k hk _ _=>h.block k hk⟩
theorem Dm.trans {x y z:World}{b:Nat}(h:Dm x y b g)(k:Dm y z b g):Dm x z b g :=
 ⟨k.os.trans h.os,k.tape.trans h.tape,k.output.trans h.output,Zv h.size k.size,fun j m d l=>(k.block j (Zy m h.size) d l).trans (h.block j m d l)⟩
theorem Dm.setB (w:World)(b g o:Nat)(v:Value):Dm w (w.setCell ⟨b,o,none⟩ v) b g:=⟨rfl,rfl,rfl,by simp[QDw],fun k _ d _=>Zl w ⟨b,o,none⟩ v k d⟩
theorem Dm.EA (w:World)(b g o:Nat)(v:Value):Dm w (w.setCell ⟨g,o,none⟩ v) b g:=⟨rfl,rfl,rfl,by simp[QDw],fun k _ _ d=>Zl w ⟨g,o,none⟩ v k d⟩
theorem AR.Cv {r:Aq}(h:AR qh w B r)(hb:∀k cs t fr,B<=k->w.heap[k]? =some (.cells cs t fr)->(t=272\/t=276\/t=3)->w'.heap[k]? =w.heap[k]?):AR qh w' B r:=by
 have hk:∀{e:TypeId} {size n:Nat} {v:Value} {xs:List Value},(e=272\/e=276\/e=3)->w.ownsRow B e size v n xs->w'.ownsRow B e size v n xs:=by
  intro e size n v xs he l;refine⟨l.1,?_⟩;rcases l.2 with m | ⟨g,cap,cur,rfl,hg,hh,o⟩
  .exact Zu m
  .exact Zj ⟨g,cap,cur,rfl,hg,(hb g cur e (0,0) hg hh he).trans hh,o⟩
 exact⟨(hb r.b _ _ _ h.bb h.top (Zu rfl)).trans h.top,h.bb,hk (Zj (Zu rfl)) h.row,fun k d=>⟨hk (Zj (Zj rfl)) (h.DW k d).1,(h.DW k d).2⟩,h.some_,h.Br⟩
theorem AR.below {r:Aq}(h:AR qh w B r)(hb:ZY w w'):AR qh w' B r :=
 h.Cv (fun k _ _ _ _ e _=>hb.block k (Array.getElem?_eq_some_iff.1 e).1)
theorem AR.lt {r:Aq}(h:AR qh w B r):r.b<w.heap.size:=(Array.getElem?_eq_some_iff.1 h.top).1
theorem AR.Bj {r:Aq}(h:AR qh w B r):∃cur,w.heap[r.ng]? =some (.cells cur 276 (0,0))/\r.ns.length<=r.nc/\r.nc<=maxLen/\B<=r.ng/\r.ng<w.heap.size:=by
 obtain⟨g,cur,hg,b,d,l,m,hh⟩:=Zdx h.row (by have:=h.some_;omega);obtain rfl:r.ng=g:=by simpa using hg
 exact⟨cur,hh,l,m,b,d⟩
theorem AR.cell {r:Aq}(h:AR qh w B r)(hk:k<r.ns.length)(b:j<10):w.cell? ⟨r.ng,k * 10+j,none⟩=(Ny (r.at_ k))[j]? :=DQ (z:=Cl.z) h.row MJ hk b
theorem AR.AD {r:Aq}(h:AR qh w B r)(j:Nat):w.frozen? ⟨r.ng,j,none⟩=false:=Gq h.row j
structure NdC (w:World)(g o:Nat)(n:Cl):Prop where
 c0:w.cell? ⟨g,o,none⟩=some (.int .i64 n.bu)
 c1:w.cell? ⟨g,o+1,none⟩=some (.int .i64 n.cl)
 c2:w.cell? ⟨g,o+2,none⟩=some (.int .i64 n.be)
 c3:w.cell? ⟨g,o+3,none⟩=some (.int .i64 n.ba)
 c4:w.cell? ⟨g,o+4,none⟩=some (.int .i64 n.ca)
 c5:w.cell? ⟨g,o+5,none⟩=some (.int .i64 n.ji)
 c6:w.cell? ⟨g,o+6,none⟩=some (.slice n.aa n.af.length n.ac)
 c7:w.cell? ⟨g,o+7,none⟩=some (.int .i64 n.st)
 c8:w.cell? ⟨g,o+8,none⟩=some (.int .i64 n.tries)
 c9:w.cell? ⟨g,o+9,none⟩=some (.int .u64 n.tok)
theorem AR.nd {r:Aq}(h:AR qh w B r)(hk:k<r.ns.length):NdC w r.ng (k * 10) (r.at_ k) :=
 ⟨h.cell hk (j:=0) (by omega),h.cell hk (j:=1) (by omega),h.cell hk (j:=2) (by omega),h.cell hk (j:=3) (by omega),h.cell hk (j:=4) (by omega),h.cell hk (j:=5) (by omega),h.cell hk (j:=6) (by omega),h.cell hk (j:=7) (by omega),h.cell hk (j:=8) (by omega),h.cell hk (j:=9) (by omega)⟩
theorem AR.CP {r:Aq}(h:AR qh w B r):(w.cell? ⟨r.b,0,none⟩=some (.int .u64 r.id)/\w.cell? ⟨r.b,1,none⟩=some (.int .i64 r.st)/\w.cell? ⟨r.b,2,none⟩=some (.slice (some ⟨r.ng,0,none⟩) r.ns.length r.nc))/\∀j,w.frozen? ⟨r.b,j,none⟩=false:=by
 refine⟨⟨?_,?_,?_⟩,fun j=> ?_⟩
 .unfold QEk;rw[h.top];rfl
 .unfold QEk;rw[h.top];rfl
 .unfold QEk;rw[h.top];rfl
 .simp[World.frozen?,h.top]
theorem AR.FP {r:Aq}(h:AR qh w B r)(hk:k<r.ns.length)(n:j<10){f:Cl->Cl}(hf:Ny (f (r.at_ k))=(Ny (r.at_ k)).set j v)(d:(f (r.at_ k)).aa=(r.at_ k).aa/\(f (r.at_ k)).ac=(r.at_ k).ac/\(f (r.at_ k)).af=(r.at_ k).af) :
  AR qh (w.setCell ⟨r.ng,k * 10+j,none⟩ v) B (r.BG k f):=by
 obtain⟨cur,hh,_⟩:=h.Bj;refine⟨?_,h.bb,Zn (z:=Cl.z) h.row MJ hk n hf,fun m hm=> ?_,by rw[r.AW];exact h.some_,by rw[r.AW];exact h.Br⟩
 .show (w.setCell ⟨r.ng,k * 10+j,none⟩ v).heap[r.b]? =_
  rw[Zl _ _ _ _ (Zah h.top hh (by decide)),h.top];unfold rnC;rw[r.AW];rfl
 .rw[r.AW] at hm
  have l:Mn qh (w.setCell ⟨r.ng,k * 10+j,none⟩ v) B (r.at_ m):=⟨Zaf (h.DW m hm).1 hh (by decide) v (o:=k * 10+j),(h.DW m hm).2⟩;unfold Mn;rw[r.BY _ _ _ hm];by_cases e:k=m
  .subst e
   rw[if_pos rfl,d.1,d.2.1,d.2.2];exact l
  .rw[if_neg e];exact l
theorem AR.QM {r:Aq}(h:AR qh w B r)(hk:k<r.ns.length)(n:Cl)(hn:n.aa=none/\n.ac=0/\n.af=[])(hw:w'=w.setCells r.ng (k * 10) (Ny n)) :
  AR qh w' B (r.BG k (fun _=>n))/\Dm w w' r.b r.ng:=by
 subst hw;obtain⟨cur,hh,q1,x,y,A⟩:=h.Bj;have d:∀j,j≠r.ng->(w.setCells r.ng (k * 10) (Ny n)).heap[j]? =w.heap[j]? :=fun j p=>OZ r.ng j p _ _ _;obtain⟨s1,s2,s3,u⟩:=QO w r.ng (k * 10) (Ny n);refine⟨⟨?_,h.bb,?_,fun m hm=> ?_,by rw[r.AW];exact h.some_,by rw[r.AW];exact h.Br⟩,⟨s2,s3,u,by rw[s1];exact Zx _,fun j _ _ p=>d j p⟩⟩
 .show (w.setCells r.ng (k * 10) (Ny n)).heap[r.b]? =_
  rw[d _ (Zah h.top hh (by decide)),h.top];unfold rnC;rw[r.AW];rfl
 .have:=KA (z:=Cl.z) h.row MJ hk n
  show BA _ B _ 10 Ny _ _ (r.ns.modify k (fun _=>n));rw[MO];exact this
 .rw[r.AW] at hm
  unfold Mn;rw[r.BY _ _ _ hm];by_cases e:k=m
  .subst e
   rw[if_pos rfl,hn.1,hn.2.1,hn.2.2];exact⟨QEj _ _ _ _,by simp⟩
  .rw[if_neg e]
   have o:=h.DW m hm;refine⟨⟨o.1.1,?_⟩,o.2⟩;rcases o.1.2 with l | ⟨g,cap,c2,l,hg,q,s⟩
   .exact Zu l
   .exact Zj ⟨g,cap,c2,l,hg,(d g (Zah q hh (by decide))).trans q,s⟩
theorem AR.Mh {r:Aq}(h:AR qh w B r)(st:Int):AR qh (w.setCell ⟨r.b,1,none⟩ (.int .i64 st)) B { r with st:=st }:=by
 refine⟨by rw[Zab h.top];rfl,h.bb,Zaf h.row h.top (by decide) _,fun k hk=>⟨Zaf (h.DW k hk).1 h.top (by decide) _,(h.DW k hk).2⟩,h.some_,h.Br⟩
open Go.RowKit
attribute [local go_sem ↓] Go.wp_at_zero Go.wp_at_succ
def Aq.Wn (r:Aq):Int:=if r.ns.all (fun n=>n.st == 5||n.st == 6||n.st == 7) then (if r.ns.all (fun n=>n.st == 5) then 2 else 3) else 1
theorem Pe {r:Aq}{p:Cl->Bool}(hi:i<r.ns.length):(r.ns.take (i+1)).all p=((r.ns.take i).all p&&p (r.at_ i)):=by
 rw[QEq,ZZ hi,List.all_append]
 congr 1
 simp[Aq.at_,ZQ,ZZ hi]
theorem YK {r:Aq}{p:Cl->Bool}(hi:i<r.ns.length)(h:p (r.at_ i)=false):r.ns.all p=false:=by
 rw[QEo];refine⟨r.at_ i,?_,by simp[h]⟩;simp[Aq.at_,ZQ,ZZ hi]
def Wm (l:List Cl):Int:=if l.all (fun n=>n.st == 5) then 2 else 3
theorem OJ (w:World)(B:Nat)(r:Aq)(h:AR qh w B r) :
  Calls prog 226 #[.pointer (some ⟨r.b,0,none⟩)] w fun e w'=>e=.returned (.int .i64 r.Wn)/\ZY w w':=by
 have H:=Zz h;have N:=Zz (Zk w.heap.size w);obtain⟨⟨c0,c1,c2⟩,_⟩:=h.CP;obtain⟨_,_,K,J,_,_⟩:=h.Bj;have I:=h.Br;obtain⟨m,hm⟩:∃m,m=r.ns.length:=⟨_,rfl⟩;rw[<-hm] at c2 K I;have z:=Zz hm;clear h hm c0 c1 J
 go_enter func226,ntmps226
 go_wp2_with fail
 go_loopw [3,11] (fun W L wr=>∃i:Nat,L=.int .i64 i/\W=.int .i64 (Wm (r.ns.take i))/\i<=m/\ZY w wr/\(r.ns.take i).all (fun n=>n.st == 5||n.st == 6||n.st == 7)=true) (fun _ L _=>m - (intOf L).toNat)
 case atStart=>exact⟨0,rfl,by simp[Wm],by omega,N.o,by simp⟩
 case round =>
  obtain⟨i,rfl,rfl,hi,C,s⟩:=hrel;have d:=Zz C;have l:=Zz s;clear s C;by_cases G:i<m
  .have M:=H.o.below d.o
   obtain⟨t0,t1,t2,t3,t4,t5,t6,t7,t8,t9⟩:=M.nd (k:=i) (by have:=z.o;omega);have A:=Pe (r:=r) (p:=fun n=>n.st == 5||n.st == 6||n.st == 7) (i:=i) (by have:=z.o;omega);have u:=Pe (r:=r) (p:=fun n=>n.st == 5) (i:=i) (by have:=z.o;omega);have D:=YK (r:=r) (p:=fun n=>n.st == 5||n.st == 6||n.st == 7) (i:=i) (by have:=z.o;omega)
   generalize r.at_ i=n at *
   have x:=Zz (Zq A (Zq u D));have i1:(i:Int)<(m:Int):=by omega
   clear A u D M;by_cases y:n.st=5
   .have g1:(n.st == 5)=true:=by simpa using y
    have q:=Zz y;go_wp2_with fail
    go_roundw
    case rel=>exact⟨i+1,by go_num,by unfold Wm;rw[x.o.2.1,q.o];simp,by omega,d.o.alloc d.o.size _,by rw[x.o.1,l.o,q.o];rfl⟩
    case measure=>simp[intOf];omega
   .by_cases E:n.st=6
    .have q:=Zz E
     go_wp2_with fail
     go_roundw
     case rel=>exact⟨i+1,by go_num,by unfold Wm;rw[x.o.2.1,q.o];simp,by omega,d.o.alloc d.o.size _,by rw[x.o.1,l.o,q.o];rfl⟩
     case measure=>simp[intOf];omega
    .by_cases F:n.st=7
     .have q:=Zz F
      go_wp2_with fail
      go_roundw
      case rel=>exact⟨i+1,by go_num,by unfold Wm;rw[x.o.2.1,q.o];simp,by omega,d.o.alloc d.o.size _,by rw[x.o.1,l.o,q.o];rfl⟩
      case measure=>simp[intOf];omega
     .have q:=Zz (Zq y (Zq E F))
      have g5:decide (n.st=5)=false:=decide_eq_false y;have g6:decide (n.st=6)=false:=decide_eq_false E;have g7:decide (n.st=7)=false:=decide_eq_false F;have R:(n.st == 5)=false:=by simpa using y
      have S:(n.st == 6)=false:=by simpa using E
      have T:(n.st == 7)=false:=by simpa using F
      clear y E F;go_wp2_with fail
      go_ret
      have V:=x.o.2.2 (by have:=q.o;simp[this.1,this.2.1,this.2.2]);refine⟨?_,d.o.alloc d.o.size _⟩;unfold Aq.Wn;rw[if_neg (by rw[V];simp)]
      rfl
  .have e:i=m:=by omega
   have O:=Zz e;have i1:¬(i:Int)<(m:Int):=by omega
   clear e G;go_wp2_with fail
   go_ret
   have G:=l.o;have U:r.ns.take i=r.ns:=QCw (by have:=z.o;have:=O.o;omega);rw[U] at G ⊢;refine⟨?_,d.o⟩;unfold Aq.Wn;rw[if_pos G]
   rfl
def Ks (st:Int):Int:=if st=5\/st=6 then st else 7
def Cl.over (n:Cl):Cl:=⟨0,0,0,0,0,0,none,0,[],Ks n.st,n.tries,0⟩
def Aq.Cs (r:Aq)(st:Int)(k:Nat):Aq:={ r with st:=st,ns:=(r.ns.take k).map Cl.over++r.ns.drop k }
def Aq.ended (r:Aq)(st:Int):Aq:={ r with st:=st,ns:=r.ns.map Cl.over }
theorem Aq.PI (r:Aq)(st:Int):r.Cs st 0={ r with st:=st }:=by unfold Aq.Cs;simp
theorem Aq.Lw (r:Aq)(st:Int):r.Cs st r.ns.length=r.ended st:=by unfold Aq.Cs Aq.ended;simp
theorem Aq.CQ (r:Aq)(st:Int)(k:Nat):(r.Cs st k).ns.length=r.ns.length:=by unfold Aq.Cs;simp;omega
theorem Aq.GG {r:Aq}{m:Nat}(hm:m<r.ns.length):(r.Cs st k).at_ m=if m<k then (r.at_ m).over else r.at_ m:=by
 unfold Aq.Cs Aq.at_;simp only[ZQ];by_cases h:m<k
 .rw[if_pos h,QBg (by simp;omega),QEp,List.getElem?_take_of_lt h,ZZ hm];rfl
 .rw[if_neg h,QBe (by simp;omega),List.getElem?_drop]
  congr 2
  rw[List.length_map,QBf];omega
theorem VS {r q:Aq}(d:q.b=r.b/\q.id=r.id/\q.st=r.st/\q.ng=r.ng/\q.nc=r.nc)(hl:q.ns.length=r.ns.length)(n:∀m,m<r.ns.length->q.at_ m=r.at_ m):q=r:=by
 obtain⟨b,id,st,ng,nc,ns⟩:=r;obtain⟨y,o,x,s,p,u⟩:=q;simp only at d hl;obtain⟨rfl,rfl,rfl,rfl,rfl⟩:=d
 congr 1
 apply List.ext_getElem hl
 intro m l h;have:=n m h;simp only[Aq.at_,ZQ,ZZ l,ZZ h,QCe] at this;exact this
theorem Aq.Ge {r:Aq}(hk:k<r.ns.length):r.Cs st (k+1)=(r.Cs st k).BG k (fun _=>(r.at_ k).over):=by
 refine VS ⟨rfl,rfl,rfl,rfl,rfl⟩ (by rw[r.CQ,Aq.AW,r.CQ]) (fun m hm=> ?_);rw[Aq.AW,r.CQ] at hm;rw[Aq.BY _ _ _ _ (by rw[r.CQ];exact hm),Aq.GG hm,Aq.GG hm];by_cases e:k=m
 .subst e;rw[if_pos (by omega),if_pos rfl]
 .rw[if_neg e]
  by_cases h:m<k
  .rw[if_pos h,if_pos (by omega)]
  .rw[if_neg h,if_neg (by omega)]
theorem Ft (r:Aq)(k:Nat)(f:Cl->Cl)(n:Cl)(hk:k<r.ns.length):(r.BG k f).BG k (fun _=>n)=r.BG k (fun _=>n):=by
 refine VS ⟨rfl,rfl,rfl,rfl,rfl⟩ (by simp[Aq.AW]) (fun m hm=> ?_);rw[Aq.AW] at hm;rw[Aq.BY _ _ _ _ (by rw[Aq.AW];exact hm),Aq.BY _ _ _ _ hm,Aq.BY _ _ _ _ hm];by_cases e:k=m
 .rw[if_pos e,if_pos e]
 .rw[if_neg e,if_neg e,if_neg e]
theorem AR.drew {r:Aq}(h:AR qh w B r):AR qh w.drew B r:=h.below (ZV.drew)
theorem Dm.drew {b:Nat}(h:Dm w w' b g):Dm w w'.drew b g:=⟨h.os,h.tape,h.output,h.size,h.block⟩
theorem Vo (w:World)(B:Nat)(r:Aq)(st:Int)(h:AR qh w B r) :
  Calls prog 228 #[.pointer (some ⟨r.b,0,none⟩),.int .i64 st] w fun e w'=>e=.returned (.tuple #[])/\AR qh w' B (r.ended st)/\Dm w w' r.b r.ng:=by
 obtain⟨⟨c0,c1,c2⟩,R⟩:=h.CP;have f1:=R 1;have Z:=Zz (h.Mh st);obtain⟨_,_,X,W,_,_⟩:=h.Bj;have V:=h.Br;obtain⟨m,hm⟩:∃m,m=r.ns.length:=⟨_,rfl⟩;rw[<-hm] at c2 X V;have S:=Zz hm;have HW:=Zz (Dm.setB w r.b r.ng 1 (.int .i64 st));have d2:=Z.o.CP.1.2.2;rw[show ({ r with st:=st }:Aq).ns.length=m from hm.symm] at d2;have d2:(w.setCell ⟨r.b,1,none⟩ (.int .i64 st)).cell? ⟨r.b,2,none⟩=some (.slice (some ⟨r.ng,0,none⟩) m r.nc):=d2;clear h hm c0 W R
 go_enter func228,ntmps228
 go_wp2_with fail
 go_loopw [15] (fun Y wr=>∃i:Nat,Y=.int .i64 i/\i<=m/\AR qh wr B (r.Cs st i)/\Dm w wr r.b r.ng) (fun Y _=>m - (intOf Y).toNat)
 case atStart=>exact⟨0,rfl,by omega,by rw[r.PI];exact Z.o,HW.o⟩
 case round =>
  obtain⟨i,rfl,hi,d,O⟩:=hrel;have G:=Zz (Zq d O);clear c1 c2 d2 f1;by_cases M:i<m
  .obtain⟨⟨c0,c1,c2⟩,R⟩:=d.CP
   have y:i<r.ns.length:=by have:=S.o;omega
   have l:i<(r.Cs st i).ns.length:=by rw[r.CQ];exact y
   have A:=d.nd l
   have c2:wr.cell? ⟨r.b,2,none⟩=some (.slice (some ⟨r.ng,0,none⟩) m r.nc):=by
    have e:(r.Cs st i).ns.length=m:=by rw[r.CQ];exact S.o.symm
    rw[<-e];exact c2
   have H:(r.Cs st i).at_ i=r.at_ i:=by rw[Aq.GG y,if_neg (by omega)]
   rw[H] at A;have A:NdC wr r.ng (i * 10) (r.at_ i):=A;obtain⟨t0,t1,t2,t3,t4,t5,t6,t7,t8,t9⟩:=A;have z:∀j,wr.frozen? ⟨r.ng,i * 10+j,none⟩=false:=fun j=>d.AD _;have z0:wr.frozen? ⟨r.ng,i * 10,none⟩=false:=d.AD (i * 10);have z1:=z 1;have z2:=z 2;have z3:=z 3;have z4:=z 4;have z5:=z 5;have z6:=z 6;have z7:=z 7;have z8:=z 8;have z9:=z 9;have F:=fun v=>d.FP (k:=i) (j:=7) (f:=fun n=>{ n with st:=v }) (v:=.int .i64 v) l (by omega) rfl ⟨rfl,rfl,rfl⟩
   have u:=Zz (Zq H (Zq F (Zq y l)));have i1:(i:Int)<(m:Int):=by omega
   have i2:i<m:=M;clear z F H y l R d O c0 c1
   generalize hn:r.at_ i=n at *
   by_cases x:n.st=5
   .have g5:decide (n.st=5)=true:=decide_eq_true x
    have U:(n.st != 5)=false:=by simp[x]
    have K:=Zz x;rw[x] at t7
    go_upto_region 7 with fail
    go_region
    all_goals
     go_wp2_with fail
     go_roundw
     case rel =>
      have N:n.over=⟨0,0,0,0,0,0,none,0,[],5,n.tries,0⟩:=by unfold Cl.over Ks;rw[K.o];rfl
      obtain⟨k1,k2⟩:=G.o.1.QM (w':=wr.setCells (r.Cs st i).ng (i * 10) (Ny n.over)) u.o.2.2.2 n.over ⟨rfl,rfl,rfl⟩ rfl;have E:=Aq.Ge (st:=st) u.o.2.2.1;rw[hn] at E;rw[<-E] at k1;rw[N] at k1 k2;exact⟨i+1,by go_num,by omega,k1.drew,(G.o.2.trans k2).drew⟩
     case measure=>simp[intOf];omega
   .by_cases I:n.st=6
    .have g5:decide (n.st=5)=false:=decide_eq_false x
     have K:=Zz I;rw[I] at t7;clear x I g5
     go_upto_region 7 with fail
     go_region
     all_goals
      go_wp2_with fail
      go_roundw
      case rel =>
       have N:n.over=⟨0,0,0,0,0,0,none,0,[],6,n.tries,0⟩:=by unfold Cl.over Ks;rw[K.o];rfl
       obtain⟨k1,k2⟩:=G.o.1.QM (w':=wr.setCells (r.Cs st i).ng (i * 10) (Ny n.over)) u.o.2.2.2 n.over ⟨rfl,rfl,rfl⟩ rfl;have E:=Aq.Ge (st:=st) u.o.2.2.1;rw[hn] at E;rw[<-E] at k1;rw[N] at k1 k2;exact⟨i+1,by go_num,by omega,k1.drew,(G.o.2.trans k2).drew⟩
      case measure=>simp[intOf];omega
    .have g5:decide (n.st=5)=false:=decide_eq_false x
     have g6:decide (n.st=6)=false:=decide_eq_false I;have U:(n.st == 5)=false:=by simpa using x
     have aj:(n.st == 6)=false:=by simpa using I
     have K:=Zz (Zq x I);have s:AR qh (wr.setCell ⟨r.ng,i * 10+7,none⟩ (.int .i64 7)) B _:=u.o.2.1 7;have T:=Zz s;have ae:(n.st != 5)=true:=by simpa using x
     have ag:(n.st != 6)=true:=by simpa using I
     clear s
     go_upto_region 7 with fail
     obtain⟨J,C⟩:∃J,J=wr.setCell ⟨r.ng,i * 10+7,none⟩ (.int .i64 7):=⟨_,rfl⟩;rw[<-C];have L:=T.o;rw[<-C] at L;have q:i<((r.Cs st i).BG i (fun n=>{ n with st:=7 })).ns.length:=by rw[Aq.AW];exact u.o.2.2.2
     have p:=L.nd q;have D:((r.Cs st i).BG i (fun n=>{ n with st:=7 })).at_ i={ n with st:=7 }:=by rw[Aq.BY _ _ _ _ u.o.2.2.2,if_pos rfl,u.o.1]
     rw[D] at p;have p:NdC J r.ng (i * 10) { n with st:=7 }:=p;obtain⟨t0,t1,t2,t3,t4,t5,t6,t7,t8,t9⟩:=p;have z:∀j,J.frozen? ⟨r.ng,i * 10+j,none⟩=false:=fun j=>L.AD _;have z0:J.frozen? ⟨r.ng,i * 10,none⟩=false:=L.AD (i * 10);have z1:=z 1;have z2:=z 2;have z3:=z 3;have z4:=z 4;have z5:=z 5;have z6:=z 6;have z7:=z 7;have z8:=z 8;have z9:=z 9;have H7:=Zz (Zq L (Zq q C));clear z L q D C
     go_region
     all_goals
      go_wp2_with fail
      go_roundw
      case rel =>
       obtain⟨u1,u2,u3⟩:=H7.o;have N:n.over=⟨0,0,0,0,0,0,none,0,[],7,n.tries,0⟩:=by unfold Cl.over Ks;rw[if_neg (fun h=>h.elim K.o.1 K.o.2)]
       obtain⟨k1,k2⟩:=u1.QM (w':=J.setCells (r.Cs st i).ng (i * 10) (Ny n.over)) u2 n.over ⟨rfl,rfl,rfl⟩ rfl;have E:=Aq.Ge (st:=st) u.o.2.2.1;rw[hn] at E;rw[Ft _ _ _ _ u.o.2.2.2,<-E] at k1;rw[N] at k1 k2;have k0:Dm w J r.b r.ng:=by rw[u3];exact G.o.2.trans (Dm.EA wr r.b r.ng _ _)
       exact⟨i+1,by go_num,by omega,k1.drew,(k0.trans k2).drew⟩
      case measure=>simp[intOf];omega
  .have e:i=m:=by omega
   have HE:=Zz e;have i1:¬(i:Int)<(m:Int):=by omega
   clear e M;go_wp2_with fail
   go_end0
   have M:=G.o.1;rw[HE.o,S.o,r.Lw] at M;exact⟨rfl,M,G.o.2⟩
def Aq.free (r:Aq)(k:Nat):Bool:=(r.at_ k).st == 1&&(r.at_ k).af.all (fun a=>(r.at_ a.toNat).st == 5)
def Aq.DG (r:Aq)(i:Nat):List Nat:=(List.range i).filter r.free
def Aq.awake (r:Aq):List Nat:=r.DG r.ns.length
theorem Aq.Gh (r:Aq)(i:Nat):r.DG (i+1)=r.DG i++(if r.free i then [i] else []):=by
 unfold Aq.DG;rw[List.range_succ,List.filter_append]
 congr 1
 cases h:r.free i<;>simp[h]
theorem Aq.SK (r:Aq)(i:Nat):(r.DG i).length<=i:=Zv (List.length_filter_le _ _) (by simp)
def Qu (l:List Nat):List Value:=l.map (fun (k:Nat)=> .int .i64 (k:Int))
def Aq.within (r:Aq):Prop:=∀k,k<r.ns.length->(r.at_ k).af.length<=1000/\∀a∈(r.at_ k).af,0<=a/\a<r.ns.length
theorem Vl:(prog.info? 3).map (fun i=>(i.zero,i.size,i.bytes))=some (some (.int .i64 0),1,8):=by kernel_rfl
theorem Mn.cell {n:Cl}(h:Mn qh w B n)(m:j<n.af.length):∃g,n.aa=some ⟨g,0,none⟩/\w.cell? ⟨g,j,none⟩=some (.int .i64 (n.af.getD j 0))/\n.af.length<=n.ac/\g<w.heap.size:=by
 have b:w.ownsRow B 3 1 (.slice n.aa n.af.length n.ac) n.af.length (afV n.af):=h.1;rcases b.2 with⟨_,d⟩ | ⟨g,cap,cur,d,hg,hh,o,p,q,r⟩
 .omega
 .obtain⟨l,_,s⟩:n.aa=some ⟨g,0,none⟩/\n.af.length=n.af.length/\n.ac=cap:=by simpa using d
  rw[l] at b;refine⟨g,l,?_,by omega,(Array.getElem?_eq_some_iff.1 hh).1⟩;rw[b.cellAt j (by omega)];unfold afV;rw[QEp,ZZ m,ZQ,ZZ m];rfl
theorem Ju {l:List Int}(b:j<l.length):l.getD j 0∈l:=by
 rw[ZQ,ZZ b];exact List.getElem_mem b
theorem SM {r:Aq}(d:(r.at_ k).st=1)(h:∀j,j<(r.at_ k).af.length->(r.at_ ((r.at_ k).af.getD j 0).toNat).st=5):r.free k=true:=by
 unfold Aq.free;rw[QCg,List.all_eq_true];refine⟨by simpa using d,fun a l=> ?_⟩;obtain⟨j,b,rfl⟩:=QEt l;have:=h j b;rw[ZQ,ZZ b] at this;simpa using this
theorem PU {r:Aq}(b:j<(r.at_ k).af.length)(h:(r.at_ ((r.at_ k).af.getD j 0).toNat).st≠5):r.free k=false:=by
 unfold Aq.free
 have:(r.at_ k).af.all (fun a=>(r.at_ a.toNat).st == 5)=false:=by
  rw[QEo];exact⟨_,Ju b,by simpa using h⟩
 rw[this,Bool.and_false]
theorem SL {r:Aq}(h:(r.at_ k).st≠1):r.free k=false:=by
 unfold Aq.free;have:((r.at_ k).st == 1)=false:=by simpa using h
 rw[this,Bool.false_and]
theorem news1K (W:World)(N:Nat)(x:Value)(t:TypeId)(b:N=W.heap.size)(j:Nat)(u:Value)(h:[x][j]? =some u):(W.alloc (.cells #[x] t)).cell? ((⟨N,0,none⟩:Addr).add j)=some u:=by
 subst b
 cases j with
 | zero=>simp at h;subst h;simp[Addr.add,World.cell?_alloc_at]
 | succ j=>simp at h
theorem Sh (w:World)(B:Nat)(r:Aq)(h:AR qh w B r)(bf:r.within) :
  Calls prog 154 #[.pointer (some ⟨r.b,0,none⟩)] w fun e w'=>∃a c,e=.returned (.slice a r.awake.length c)/\w'.ownsRow w.heap.size 3 1 (.slice a r.awake.length c) r.awake.length (Qu r.awake)/\ZY w w':=by
 have H:=Zz h;have V:=Zz bf;have HB:=Zz (Zk w.heap.size w);obtain⟨⟨c0,c1,c2⟩,_⟩:=h.CP;obtain⟨_,_,cz,cy,_,_⟩:=h.Bj;have ck:=h.Br;obtain⟨m,hm⟩:∃m,m=r.ns.length:=⟨_,rfl⟩;rw[<-hm] at c2 cz ck;have HM:=Zz hm;obtain⟨i3,ay,bj,bo,bp⟩:=info_parts Vl;have HI:=Zz (Zq ay (Zq bj (Zq bo bp)));clear h bf hm c0 c1 cy ay bj bo bp
 go_enter func154,ntmps154
 go_wp2_with fail
 go_step3
 go_wp2_with fail
 go_step3
 go_wp2_with fail
 go_loopg [3,13] m (fun gk U iv wr=>∃(i:Nat) (O:Option Addr) (R:Nat),gk=m - i/\iv=.int .i64 i/\U=.slice O (r.DG i).length R/\i<=m/\wr.ownsRow w.heap.size 3 1 (.slice O (r.DG i).length R) (r.DG i).length (Qu (r.DG i))/\ZY w wr)
 case atStart=>exact⟨0,none,0,rfl,rfl,rfl,by omega,QEj _ _ _ _,HB.o⟩
 case round =>
  obtain⟨i,O,R,rfl,rfl,rfl,hi,G,ar⟩:=hrel;have d:=Zz (Zq G ar);obtain⟨q,hq⟩:∃q,q=(r.DG i).length:=⟨_,rfl⟩;have dh:q<=i:=by rw[hq];exact r.SK i
  have S:=Zz hq;rw[<-hq];clear G ar hq;by_cases h1:i<m
  .have E:i<r.ns.length:=by have:=HM.o;omega
   have hR:=H.o.below d.o.2;have da:=hR.nd E;obtain⟨t0,t1,t2,t3,t4,t5,t6,t7,t8,t9⟩:=da;have I:=Zz (H.o.DW i E);have Z:=Zz (V.o i E);have bh:=(V.o i E).1;obtain⟨n,hn⟩:∃n,n=r.at_ i:=⟨_,rfl⟩;have W:=Zz hn;rw[<-hn] at t0 t1 t2 t3 t4 t5 t6 t7 t8 t9 I Z bh;obtain⟨z,hz⟩:∃z,z=n.af.length:=⟨_,rfl⟩;have HZ:=Zz hz;rw[<-hz] at t6 bh;have i1:(i:Int)<(m:Int):=by omega
   clear hn hz hR E;by_cases q1:n.st=1
   .have K:=Zz q1
    rw[q1] at t7;obtain⟨A,hA⟩:∃A,A=n.aa:=⟨_,rfl⟩;rw[<-hA] at t6;have br:=Zz hA
    have cm:A=none\/∃g,A=some ⟨g,0,none⟩:=by
     have h':w.ownsRow B 3 1 (.slice n.aa n.af.length n.ac) n.af.length (afV n.af):=I.o.1;rcases h'.2 with⟨T,_⟩ | ⟨g,cap,cur,T,_⟩
     .exact Zu (by rw[hA];simpa using congrArg (fun v=>match v with | Value.slice x _ _=>x | _=>none) T)
     .exact Zj ⟨g,by rw[hA];simpa using congrArg (fun v=>match v with | Value.slice x _ _=>x | _=>none) T⟩
    clear q1 hA;rcases cm with rfl | ⟨g,rfl⟩
    all_goals
     go_wp2_with fail
     go_loopg [25] z (fun gj jv wy=>∃j:Nat,gj=z - j/\jv=.int .i64 j/\j<=z/\ZY wr wy/\∀t,t<j->(r.at_ (n.af.getD t 0).toNat).st=5)
     case atStart=>exact⟨0,rfl,rfl,by omega,ZV.alloc ZU _,fun t ht=>by omega⟩
     case round =>
      obtain⟨j,rfl,rfl,hj,au,D⟩:=hrel
      rename World=>wy
      have C:=Zz au;have HD:=Zz D;clear D au;by_cases T:j<z
      .obtain⟨g2,ag,l,cr,ax⟩:=I.o.cell (j:=j) (by have:=HZ.o;omega)
       rw[<-br.o] at ag
       cases ag
       all_goals
        obtain⟨cq,ae⟩:=Z.o.2 _ (Ju (j:=j) (by have:=HZ.o;omega));obtain⟨an,M⟩:∃an:Nat,n.af.getD j 0=(an:Int):=⟨(n.af.getD j 0).toNat,by omega⟩;rw[M] at l ae;have F:ZY w wy:=d.o.2.trans' C.o;have y0:=(QEc (a:=⟨g,j,none⟩) (F.block g ax)).trans l;have L:=H.o.below F;obtain⟨⟨d0,d1,d2⟩,_⟩:=L.CP;rw[<-HM.o] at d2;have aj:an<r.ns.length:=by omega
        have s7:=(L.nd aj).c7;have HY:=Zz (Zq F M);obtain⟨U,N⟩:∃U,U=(r.at_ an).st:=⟨_,rfl⟩;rw[<-N] at s7;have Y:=Zz N;have j1:(j:Int)<(z:Int):=by omega
        have a1:(an:Int)<(m:Int):=by have:=HM.o;omega
        have dd:z<=n.ac:=by have:=HZ.o;omega
        clear l ax cq ae L aj F M N cr d0 d1;by_cases q5:U=5
        .subst q5
         go_wp2_with fail
         go_roundg (z - (j+1))
         case rel=>exact⟨j+1,rfl,by go_num,by omega,C.o,fun t ht=>by
          by_cases e:t=j
          .subst e;rw[HY.o.2,QEl];exact Y.o.symm
          .exact HD.o t (by omega)⟩
         case measure=>omega
        .have g5:(U != 5)=true:=by simpa using q5
         have bw:=Zz q5;go_wp2_with fail
         go_roundg (m - (i+1))
         case rel =>
          have hf:r.free i=false:=PU (j:=j) (by rw[<-W.o,<-HZ.o];exact T) (by rw[<-W.o,HY.o.2,QEl,<-Y.o];exact bw.o);have y:=r.Gh i;rw[hf] at y;simp only[QCh,if_false,QEm] at y;refine⟨i+1,O,R,rfl,by go_num,by rw[y,<-S.o],by omega,by rw[y];exact Zak d.o.1 C.o,HY.o.1⟩
         case measure=>omega
      .have e:j=z:=by omega
       have HE:=Zz e;have j1:¬(j:Int)<(z:Int):=by omega
       have aw:r.free i=true:=SM (by rw[<-W.o];exact K.o) (fun t ht=>by rw[<-W.o] at ht ⊢;exact HD.o t (by have:=HE.o;have:=HZ.o;omega));have y:=r.Gh i;rw[aw] at y;simp only[if_true] at y;have HS:=Zz y;have J:=Zz (Zak d.o.1 C.o);rw[<-S.o] at J;have dc:w.heap.size<=wy.heap.size:=(d.o.2.trans' C.o).size;clear e T y aw;go_wp2_with (at_builtin;refine wpList_append_own _ rfl (.tmp 39) (.tmp 41) 24 rfl w.heap.size 3 i3 (.int .i64 0) 1 8 underlying24 HI.o.1 HI.o.2.1 HI.o.2.2.1 HI.o.2.2.2 rfl (by decide) (.slice O q R) q (Qu (r.DG i)) rfl (J.o.alloc _) ⟨wy.heap.size,0,none⟩ 1 1 [.int .i64 i] rfl rfl (news1K _ _ _ _ rfl) (by intro u hu;simp only[List.mem_singleton] at hu;subst hu;rfl) (by unfold maxLen;omega) (by omega) (by simp;omega) ?_;intro dj w4 p s az;clear az;obtain⟨xb,xd,rfl⟩:=Zaz p;have X:=Zz (Zq p s);clear p s)
       go_roundg (m - (i+1))
       case rel =>
        have h4:=X.o.1;have db:wy.heap.size+1=(wy.alloc (.cells #[.int .i64 i] 3)).heap.size:=by simp
        have cu:ZY w w4:=by
         refine (((d.o.2.trans' C.o).alloc dc _).grown X.o.2 (by rw[<-db];omega) (fun k hk=> ?_));exact (J.o.lt k hk).1
        refine⟨i+1,xb,xd,rfl,by go_num,by rw[HS.o,ZX,<-S.o];rfl,by omega,?_,cu⟩;rw[HS.o,ZX,<-S.o];unfold Qu;rw[List.map_append];exact h4
       case measure=>omega
   .have g1:(n.st != 1)=true:=by simpa using q1
    have de:(n.st == 1)=false:=by simpa using q1
    have K:=Zz q1;go_wp2_with fail
    go_roundg (m - (i+1))
    case rel =>
     have hf:r.free i=false:=SL (by rw[<-W.o];exact K.o);have y:=r.Gh i;rw[hf] at y;simp only[QCh,if_false,QEm] at y;have al:ZY wr (wr.alloc (.cells #[.int .i64 n.bu,.int .i64 n.cl,.int .i64 n.be,.int .i64 n.ba,.int .i64 n.ca,.int .i64 n.ji,.slice n.aa z n.ac,.int .i64 n.st,.int .i64 n.tries,.int .u64 n.tok] 276)):=ZV.alloc ZU _;refine⟨i+1,O,R,rfl,by go_num,by rw[y,<-S.o],by omega,by rw[y];exact Zak d.o.1 al,d.o.2.trans' al⟩
    case measure=>omega
  .have e:i=m:=by omega
   have HE:=Zz e;have i1:¬(i:Int)<(m:Int):=by omega
   clear e h1;go_wp2_with fail
   try rw[Exit.noGoto_ret]
   go_ret
   have ha:r.awake=r.DG i:=by unfold Aq.awake;rw[<-HM.o,HE.o]
   rw[ha];exact⟨O,R,by rw[<-S.o];rfl,d.o.1,d.o.2⟩
def Aq.JK (r:Aq)(a:Nat):Bool:=(r.at_ a).st == 6||(r.at_ a).st == 7
structure IB (w:World)(bx rb:Nat):Prop where
 b:w.cell? ⟨bx,0,none⟩=some (.pointer (some ⟨rb,0,none⟩))
 bl:bx<w.heap.size
theorem IB.below {d rb:Nat}(h:IB w d rb)(hb:ZY w w'):IB w' d rb:=⟨(QEc (a:=⟨d,0,none⟩) (hb.block d h.bl)).trans h.b,Zy h.bl hb.size⟩
theorem VC (w:World)(B z:Nat)(r:Aq)(k:Nat)(h:AR qh w B r)(A:IB w z r.b)(hk:k<r.ns.length) :
  Calls prog 272 #[.int .i64 k,.pointer (some ⟨z,0,none⟩)] w fun e w'=>e=.returned (.bool (r.JK k))/\ZY w w':=by
 obtain⟨⟨c0,c1,c2⟩,_⟩:=h.CP;obtain⟨_,_,p,l,_,_⟩:=h.Bj;have t7:=(h.nd hk).c7;have E:=A.b;have n:(k:Int)<(r.ns.length:Int):=by omega
 have d:=h.Br;obtain⟨m,hm⟩:∃m,m=r.ns.length:=⟨_,rfl⟩;rw[<-hm] at c2 p n d hk;obtain⟨s,q⟩:∃s,s=(r.at_ k).st:=⟨_,rfl⟩;rw[<-q] at t7;have e:r.JK k=(s == 6||s == 7):=by unfold Aq.JK;rw[<-q]
 rw[e];clear e h A c0 c1 l q hm;by_cases u:s=6
 .subst u
  go_enter func272,ntmps272
  go_wp2_with fail
  go_ret
  exact⟨rfl,Zk _ _⟩
 .have g6:(s == 6)=false:=by simpa using u
  have C:decide (s=6)=false:=by simpa using u
  by_cases x:s=7
  .subst x
   go_enter func272,ntmps272
   go_wp2_with fail
   go_ret
   exact⟨rfl,Zk _ _⟩
  .have g7:(s == 7)=false:=by simpa using x
   have D:decide (s=7)=false:=by simpa using x
   have y:=Zz (Zq g6 g7)
   go_enter func272,ntmps272
   go_wp2_with fail
   go_ret
   exact⟨by rw[y.o.1,y.o.2];rfl,Zk _ _⟩
theorem Vh (w:World)(B N:Nat)(r:Aq)(n:Cl)(h:AR qh w B r)(Z:IB w N r.b)(D:Mn qh w B n)(s:n.af.length<=1000/\∀a∈n.af,0<=a/\a<r.ns.length) :
  Calls prog 255 #[.slice n.aa n.af.length n.ac,.func (.func 272) #[] #[.pointer (some ⟨N,0,none⟩)]] w fun e w'=>(∃x:Int,e=.returned (.int .i64 x)/\(0<=x↔n.af.any (fun a=>r.JK a.toNat)=true))/\ZY w w':=by
 obtain⟨z,L⟩:∃z,z=n.af.length:=⟨_,rfl⟩;have U:=s.1;rw[<-L] at U;have H:=Zz (Zq h (Zq Z (Zq D (Zq s L))));have HB:=Zz (Zk w.heap.size w);rw[<-L];clear h Z s L;obtain⟨A,C⟩:∃A,A=n.aa:=⟨_,rfl⟩
 have R:A=none\/∃g,A=some ⟨g,0,none⟩:=by
  have h':w.ownsRow B 3 1 (.slice n.aa n.af.length n.ac) n.af.length (afV n.af):=D.1;rcases h'.2 with⟨O,_⟩ | ⟨g,cap,cur,O,_⟩
  .exact Zu (by rw[C];simpa using congrArg (fun v=>match v with | Value.slice x _ _=>x | _=>none) O)
  .exact Zj ⟨g,by rw[C];simpa using congrArg (fun v=>match v with | Value.slice x _ _=>x | _=>none) O⟩
 rw[<-C];have M:=Zz C;clear C D;rcases R with rfl | ⟨g,rfl⟩
 all_goals
  go_enter func255,ntmps255
  go_wp2_with fail
  go_loopw [8] (fun V wr=>∃i:Nat,V=.int .i64 i/\i<=z/\ZY w wr/\∀j,j<i->r.JK (n.af.getD j 0).toNat=false) (fun V _=>z - (intOf V).toNat)
  case atStart=>exact⟨0,rfl,by omega,HB.o,by omega⟩
  case round =>
   obtain⟨j,rfl,hj,G,K⟩:=hrel;have l:=Zz G;have y:=Zz K;clear K G;by_cases W:j<z
   .obtain⟨g2,F,d,T,J⟩:=H.o.2.2.1.cell (j:=j) (by have:=H.o.2.2.2.2;omega)
    rw[<-M.o] at F;obtain⟨S,E⟩:=H.o.2.2.2.1.2 _ (Ju (j:=j) (by have:=H.o.2.2.2.2;omega));obtain⟨an,q⟩:∃an:Nat,n.af.getD j 0=(an:Int):=⟨(n.af.getD j 0).toNat,by omega⟩;rw[q] at d E;have X:z<=n.ac:=by have:=H.o.2.2.2.2;omega
    cases F
    all_goals
     have y0:=(QEc (a:=⟨g,j,none⟩) (l.o.block g J)).trans d;have HL:=Zz (VC wr B N r an (H.o.1.below l.o) (H.o.2.1.below l.o) (by omega));have u:=Zz q;have j1:(j:Int)<(z:Int):=by omega
     clear d T J S E q
     cases hf:r.JK an with
     | true =>
      rw[hf] at HL;have HF:=Zz hf;clear hf;go_wp2_with (go_at_call 272;refine HL.o.mono ?_;rintro e w3 ⟨rfl,m⟩;have p:=Zz m;clear m)
      go_ret
      refine⟨⟨j,rfl,⟨fun _=> ?_,fun _=>by omega⟩⟩,l.o.trans' p.o⟩;rw[QEn];exact⟨_,Ju (j:=j) (by have:=H.o.2.2.2.2;omega),by rw[u.o,QEl];exact HF.o⟩
     | false =>
      rw[hf] at HL;have HF:=Zz hf;clear hf;go_wp2_with (go_at_call 272;refine HL.o.mono ?_;rintro e w3 ⟨rfl,m⟩;have p:=Zz m;clear m)
      go_roundw
      case rel=>exact⟨j+1,by go_num,by omega,l.o.trans' p.o,fun t Y=>by
       by_cases e:t=j
       .subst e;rw[u.o,QEl];exact HF.o
       .exact y.o t (by omega)⟩
      case measure=>simp[intOf];omega
   .have j1:¬(j:Int)<(z:Int):=by omega
    have HJ:=Zz W;clear W;go_wp2_with fail
    go_ret
    refine⟨⟨-1,rfl,⟨fun h=>absurd h (by decide),fun h=> ?_⟩⟩,l.o⟩
    try rw[QEn] at h
    obtain⟨a,D,I⟩:=h;obtain⟨t,Y,rfl⟩:=QEt D;have:=y.o t (by have:=HJ.o;have:=H.o.2.2.2.2;omega);rw[ZQ,ZZ Y] at this;simp only[QCe] at this;rw[this] at I
    cases I
theorem Us (w:World)(B q:Nat)(r:Aq)(n:Cl)(h:AR qh w B r)(p:IB w q r.b)(y:Mn qh w B n)(m:n.af.length<=1000/\∀a∈n.af,0<=a/\a<r.ns.length) :
  Calls prog 186 #[.slice n.aa n.af.length n.ac,.func (.func 272) #[] #[.pointer (some ⟨q,0,none⟩)]] w fun e w'=>e=.returned (.bool (n.af.any (fun a=>r.JK a.toNat)))/\ZY w w':=by
 have A:=Zz (Vh w B q r n h p y m);clear h p y m
 generalize n.af.length=z at *
 go_enter func186,ntmps186
 go_wp2_with (go_at_call 255;refine A.o.mono ?_;rintro e C ⟨⟨x,rfl,p⟩,l⟩;have d:=Zz (Zq p l);clear p l)
 go_ret
 refine⟨?_,d.o.2⟩;have u:=d.o.1
 cases s:n.af.any (fun a=>r.JK a.toNat) with
 | true=>have:=u.2 s;simp[this]
 | false =>
  have:¬0<=x:=fun h=>by rw[u.1 h] at s;cases s
  simp[this]
def Aq.lost (r:Aq)(k:Nat):Bool:=(r.at_ k).st == 1&&(r.at_ k).af.any (fun a=>r.JK a.toNat)
def skM (n:Cl):Cl:={ n with st:=7 }
inductive TZ:Aq->Aq->Prop
 | refl (r:Aq):TZ r r
 | step (r r2:Aq) (k:Nat):TZ r r2->k<r2.ns.length->r2.lost k=true->TZ r (r2.BG k skM)
def Aq.shut (r:Aq):Prop:=∀k,k<r.ns.length->r.lost k=false
theorem TZ.same {a b:Aq}(h:TZ a b):b.b=a.b/\b.id=a.id/\b.st=a.st/\b.ng=a.ng/\b.nc=a.nc/\b.ns.length=a.ns.length/\∀k,k<a.ns.length->(b.at_ k).aa=(a.at_ k).aa/\(b.at_ k).ac=(a.at_ k).ac/\(b.at_ k).af=(a.at_ k).af:=by
 induction h with
 | refl=>exact⟨rfl,rfl,rfl,rfl,rfl,rfl,fun _ _=>⟨rfl,rfl,rfl⟩⟩
 | step r2 k l n o d =>
  obtain⟨i1,i2,i3,i4,i5,i6,i7⟩:=d;refine⟨i1,i2,i3,i4,i5,by rw[Aq.AW];exact i6,fun m hm=> ?_⟩;rw[Aq.BY _ _ _ _ (by omega)]
  split
  .exact i7 m hm
  .exact i7 m hm
theorem TZ.within {a b:Aq}(h:TZ a b)(m:a.within):b.within:=by
 obtain⟨_,_,_,_,_,d,l⟩:=h.same;intro k hk;rw[d] at hk ⊢;rw[(l k hk).2.2];exact m k hk
def Aq.waits (r:Aq):Nat:=r.ns.countP (fun n=>n.st == 1)
theorem JI {p:Cl->Bool}{f:Cl->Cl}:∀(l:List Cl) (k:Nat),k<l.length->p (l.getD k .z)=true->p (f (l.getD k .z))=false->(l.modify k f).countP p+1=l.countP p
 | [],k,h,_,_=>by simp at h
 | s::l,0,_,h1,h2=>by
  simp only[QEs] at h1 h2;rw[QEv,List.countP_cons_of_neg (by simp[h2]),List.countP_cons_of_pos (by simp[h1])]
 | s::l,k+1,h,h1,h2=>by
  simp only[QEr] at h1 h2;have:=JI l k (by simpa using h) h1 h2;rw[QEu,QCo,QCo];omega
theorem Aq.QV {r:Aq}(hk:k<r.ns.length)(h:r.lost k=true):(r.BG k skM).waits<r.waits:=by
 have b:(r.at_ k).st=1:=by
  unfold Aq.lost at h;simp only[QCg,beq_iff_eq] at h;exact h.1
 have:=JI (p:=fun n=>n.st == 1) (f:=skM) r.ns k hk (by show (r.at_ k).st == 1;rw[b];rfl) rfl;unfold Aq.waits Aq.BG;show (r.ns.modify k skM).countP _<_;omega
