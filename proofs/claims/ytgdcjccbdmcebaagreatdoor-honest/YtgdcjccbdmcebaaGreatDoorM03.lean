import Derived.Test.YtgdcjccbdmcebaaGreatDoorM01
import Derived.Maps.OwnSet
import Derived.DeepKeys4
import Derived.LaidEql
import Derived.Stop.Asserts
import Derived.RowKitTokens
set_option linter.all false
set_option maxHeartbeats 4000000
set_option maxRecDepth 100000
open Go renaming underlying->QDm,method->QDn
open Go.Lit renaming int->QDo
open Go.Maps renaming Tidy->QDp,size->QDq,has->QDr
open Go.Program renaming keyLits->QDs
open Go.Result renaming andThen->QDt
open Go.RowKit renaming ownsRow_setCell_below->QDu
open Go.World renaming block_lt_of_cell?->QDv,setCell->QDw,frozen?_of_block->QDx,frozen?_alloc_old->QDy,cell?_setCell_same->QDz,frozen?_setCell->QEa,cell?_alloc_lt->QEb,cell?_of_block->QEc
open List renaming flatMap_cons->QDh,length_append->QBa
open Nat renaming le_trans->QBq,lt_of_lt_of_le->QBu
namespace Go.Proofs.YtgdcjccbdmcebaaGreatDoor
open Tryz
open Go.RowKit
variable {K:Nat->Prop}{ls:Nat->List Int}{BF:Nat->Value}{w w':World}{wd:Nat->Nat}{dm v:Value}{B P b:Nat}{l:List Tm}{D:DataW Unit}{x id:Int}{xs:List Value}{e:TypeId}{ob:Option Nat}
def BK {α:Type}(f:Nat->α)(k:Nat)(v:α):Nat->α:=fun j=>if j=k then v else f j
theorem Zbh {α:Type}(f:Nat->α)(k:Nat)(v:α):BK f k v k=v:=by unfold BK;rw[if_pos rfl]
theorem Za3 {α:Type}(f:Nat->α)(k:Nat)(v:α){j:Nat}(h:j≠k):BK f k v j=f j:=by unfold BK;rw[if_neg h]
def Ei (id:Int):List Value:=[.int .u64 (id / 64),.int .i64 (id / 4 % 16 - 1),.int .i64 (id % 4)]
theorem Zc2 {r nd q:Int}(h:BL r nd q id):Ei id=[.int .u64 r,.int .i64 nd,.int .i64 q]:=by
 obtain⟨a,c,d⟩:=h.parts;unfold Ei;rw[a,c,d]
theorem Zd4 (id:Int):(Ei id).length=3:=rfl
def Ce (l:List Int):List Value:=l.flatMap Ei
theorem Zdq (l:List Int):(Ce l).length=l.length * 3:=by
 induction l with
 | nil=>rfl
 | cons a l c=>unfold Ce at *;rw[QDh,QBa,c,Zd4,List.length_cons];omega
theorem EP (a b:List Int):Ce (a++b)=Ce a++Ce b:=by simp[Ce]
theorem Eh (l:List Int){i j:Nat}(hi:i<l.length)(d:j<3):(Ce l)[i * 3+j]? =(Ei (l.getD i 0))[j]? :=by
 induction l generalizing i with
 | nil=>simp at hi
 | cons a l c =>
  unfold Ce at *;rw[QDh]
  cases i with
  | zero=>rw[List.getElem?_append_left (by rw[Zd4];omega)];simp
  | succ i =>
   rw[List.getElem?_append_right (by rw[Zd4];omega),Zd4,show (i+1) * 3+j - 3=i * 3+j by omega,c (by simpa using hi)];simp
structure Bw (w:World)(P B:Nat)(K:Nat->Prop)(now:Nat)(dm:Value)(BF:Nat->Value)(ls:Nat->List Int)(wd:Nat->Nat):Prop where
 c0:w.cell? ⟨P,11,none⟩=some (.int .u64 now)
 c1:w.cell? ⟨P,12,none⟩=some dm
 cs:∀k,k<704->w.cell? ⟨P,13+k,none⟩=some (BF k)
 cw:∀k,k<11->w.cell? ⟨P,717+k,none⟩=some (.int .u64 (wd k))
 fz:∀o,w.frozen? ⟨P,o,none⟩=false
 own:∀k,k<704->w.ownsRow B 288 3 (BF k) (ls k).length (Ce (ls k))
 apart:∀j k,j<704->k<704->j≠k->∀z,(BF j).ownBlock=some z->(BF k).ownBlock≠some z
 pb:P<B
 bs:B<=w.heap.size
 sp:∀k,k<704->∀z,(BF k).ownBlock=some z->¬K z
 kb:∀z,K z->B<=z/\∃cs fr,w.heap[z]? =some (.cells cs 288 fr)
theorem MI (h:∀z,K z->B<=z/\∃cs fr,w.heap[z]? =some (.cells cs 288 fr))(f:P<B)(o:Nat)(v:Value):∀z,K z->B<=z/\∃cs fr,(w.setCell ⟨P,o,none⟩ v).heap[z]? =some (.cells cs 288 fr):=fun z d=>by
 obtain⟨a,cs,fr,c⟩:=h z d;exact⟨a,cs,fr,by rw[Below.heap_setCell w ⟨P,o,none⟩ v z (by show z≠P;omega)];exact c⟩
theorem Ha {size n:Nat}(h:w.ownsRow B e size v n xs)(hb:∀k,B<=k->(∃cs fr,w.heap[k]? =some (.cells cs e fr))->v.ownBlock=some k->w'.heap[k]? =w.heap[k]?):w'.ownsRow B e size v n xs:=by
 obtain⟨c,a⟩:=h;refine⟨c,?_⟩;rcases a with a | ⟨g,cap,cur,rfl,hg,hh,d⟩
 .exact Or.inl a
 .exact Or.inr ⟨g,cap,cur,rfl,hg,by rw[hb g hg ⟨_,_,hh⟩ rfl];exact hh,d⟩
theorem Bw.keepK {now:Nat}(h:Bw w P B K now dm BF ls wd)(f:w.heap.size<=w'.heap.size)(d:w'.heap[P]? =w.heap[P]?)(hb:∀k,B<=k->(∃cs fr,w.heap[k]? =some (.cells cs 288 fr))->w'.heap[k]? =w.heap[k]?):Bw w' P B K now dm BF ls wd :=
 ⟨(QEc (a:=⟨P,11,none⟩) d).trans h.c0,(QEc (a:=⟨P,12,none⟩) d).trans h.c1,fun k hk=>(QEc (a:=⟨P,13+k,none⟩) d).trans (h.cs k hk),fun k hk=>(QEc (a:=⟨P,717+k,none⟩) d).trans (h.cw k hk),fun o=>(QDx (a:=⟨P,o,none⟩) d).trans (h.fz o),fun k hk=>Ha (h.own k hk) (fun z c he _=>hb z c he),h.apart,h.pb,QBq h.bs f,h.sp,fun z c=>⟨(h.kb z c).1,(h.kb z c).2.choose,(h.kb z c).2.choose_spec.choose,(hb z (h.kb z c).1 (h.kb z c).2).trans (h.kb z c).2.choose_spec.choose_spec⟩⟩
theorem Bw.Ak {now:Nat}(h:Bw w P B K now dm BF ls wd)(hb:Below w.heap.size w w'):Bw w' P B K now dm BF ls wd:=by
 refine h.keepK hb.size (hb.block P (QBu h.pb h.bs)) (fun k _ he=>hb.block k ?_);obtain⟨cs,fr,e⟩:=he;exact (Array.getElem?_eq_some_iff.1 e).1
theorem Bw.KI {now:Nat}(h:Bw w P B K now dm BF ls wd)(u:Nat):Bw (w.setCell ⟨P,11,none⟩ (.int .u64 u)) P B K u dm BF ls wd :=
 ⟨QDz _ _ _ h.c0,(Zac w P 11 12 _ (by decide)).trans h.c1,fun k hk=>(Zac w P 11 (13+k) _ (by omega)).trans (h.cs k hk),fun k hk=>(Zac w P 11 (717+k) _ (by omega)).trans (h.cw k hk),fun o=>by rw[QEa];exact h.fz o,fun k hk=>QDu (h.own k hk) h.pb _,h.apart,h.pb,by simpa[QDw] using h.bs,h.sp,MI h.kb h.pb _ _⟩
theorem Bw.setDue {now:Nat}(h:Bw w P B K now dm BF ls wd)(u:Value):Bw (w.setCell ⟨P,12,none⟩ u) P B K now u BF ls wd :=
 ⟨(Zac w P 12 11 _ (by decide)).trans h.c0,QDz _ _ _ h.c1,fun k hk=>(Zac w P 12 (13+k) _ (by omega)).trans (h.cs k hk),fun k hk=>(Zac w P 12 (717+k) _ (by omega)).trans (h.cw k hk),fun o=>by rw[QEa];exact h.fz o,fun k hk=>QDu (h.own k hk) h.pb _,h.apart,h.pb,by simpa[QDw] using h.bs,h.sp,MI h.kb h.pb _ _⟩
theorem Bw.Nn {now:Nat}(h:Bw w P B K now dm BF ls wd)(L x:Nat)(a:L<11):Bw (w.setCell ⟨P,717+L,none⟩ (.int .u64 x)) P B K now dm BF ls (BK wd L x):=by
 refine⟨(Zac w P (717+L) 11 _ (by omega)).trans h.c0,(Zac w P (717+L) 12 _ (by omega)).trans h.c1,fun k hk=>(Zac w P (717+L) (13+k) _ (by omega)).trans (h.cs k hk),fun k hk=> ?_,fun o=>by rw[QEa];exact h.fz o,fun k hk=>QDu (h.own k hk) h.pb _,h.apart,h.pb,by simpa[QDw] using h.bs,h.sp,MI h.kb h.pb _ _⟩;by_cases e:k=L
 .subst e;rw[Zbh];exact QDz _ _ _ (h.cw k hk)
 .rw[Za3 _ _ _ e];exact (Zac w P (717+L) (717+k) _ (by omega)).trans (h.cw k hk)
theorem Bw.slot {w7:World}{now:Nat}(h:Bw w P B K now dm BF ls wd){k:Nat}(hk:k<704){v':Value}{xs:List Int}{n':Nat}(hn:n'=xs.length)(A:w.heap.size<=w7.heap.size)(hb:∀j,j<w.heap.size->some j≠(BF k).ownBlock->w7.heap[j]? =w.heap[j]?)(q:w7.ownsRow B 288 3 v' n' (Ce xs))(n:∀z,v'.ownBlock=some z->(BF k).ownBlock=some z\/w.heap.size<=z) :
  Bw (w7.setCell ⟨P,13+k,none⟩ v') P B K now dm (BK BF k v') (BK ls k xs) wd:=by
 subst hn;have t:P<w.heap.size:=QBu h.pb h.bs
 have f:w7.heap[P]? =w.heap[P]? :=hb P t fun e=>by
  have:=((h.own k hk).lt P e.symm).1;have:=h.pb;omega
 refine⟨(Zac w7 P (13+k) 11 _ (by omega)).trans ((QEc (a:=⟨P,11,none⟩) f).trans h.c0),(Zac w7 P (13+k) 12 _ (by omega)).trans ((QEc (a:=⟨P,12,none⟩) f).trans h.c1),fun j d=> ?_,fun j d=>(Zac w7 P (13+k) (717+j) _ (by omega)).trans ((QEc (a:=⟨P,717+j,none⟩) f).trans (h.cw j d)),fun o=>by rw[QEa];exact (QDx (a:=⟨P,o,none⟩) f).trans (h.fz o),fun j d=> ?_,fun i j hi d p z c=> ?_,h.pb,by have:=h.bs;simp[QDw];omega,fun j d z c=> ?_,fun z c=> ?_⟩
 .by_cases e:j=k
  .subst e;rw[Zbh];exact QDz _ _ _ ((QEc (a:=⟨P,13+j,none⟩) f).trans (h.cs j d))
  .rw[Za3 _ _ _ e];exact (Zac w7 P (13+k) (13+j) _ (by omega)).trans ((QEc (a:=⟨P,13+j,none⟩) f).trans (h.cs j d))
 .by_cases e:j=k
  .subst e;rw[Zbh,Zbh];exact QDu q h.pb _
  .rw[Za3 _ _ _ e,Za3 _ _ _ e]
   refine QDu (Ha (h.own j d) (fun z _ he c=> ?_)) h.pb _;refine hb z ?_ (fun g=>h.apart j k d hk e z c g.symm);obtain⟨cs,fr,m⟩:=he;exact (Array.getElem?_eq_some_iff.1 m).1
 .by_cases s:i=k
  .subst s
   rw[Zbh] at c;rw[Za3 _ _ _ (Ne.symm p)];rcases n z c with g | g
   .exact fun m=>h.apart j i d hk (Ne.symm p) z m g
   .exact fun m=>by have:=((h.own j d).lt z m).2;omega
  .rw[Za3 _ _ _ s] at c
   by_cases g:j=k
   .subst g
    rw[Zbh];intro m;rcases n z m with u | u
    .exact h.apart i j hi hk s z c u
    .have:=((h.own i hi).lt z c).2;omega
   .rw[Za3 _ _ _ g];exact h.apart i j hi d p z c
 .by_cases e:j=k
  .subst e
   rw[Zbh] at c;rcases n z c with g | g
   .exact h.sp j d z g
   .exact fun x=>by obtain⟨_,cs,fr,r⟩:=h.kb z x;have:=(Array.getElem?_eq_some_iff.1 r).1;omega
  .rw[Za3 _ _ _ e] at c
   exact h.sp j d z c
 .obtain⟨y,cs,fr,r⟩:=h.kb z c
  refine⟨y,cs,fr,?_⟩;rw[Below.heap_setCell w7 ⟨P,13+k,none⟩ _ z (by show z≠P;have:=h.pb;omega),hb z (Array.getElem?_eq_some_iff.1 r).1 (fun e=>h.sp k hk z e.symm c)];exact r
structure PF (w w':World)(P B:Nat)(K:Nat->Prop):Prop where
 os:w'.os=w.os
 tape:w'.tape=w.tape
 output:w'.output=w.output
 size:w.heap.size<=w'.heap.size
 block:∀k,k<w.heap.size->k≠P->((k<B\/K k)\/∃cs t fr,w.heap[k]? =some (.cells cs t fr)/\t≠288)->w'.heap[k]? =w.heap[k]?
 off:P<w.heap.size->∀o,o<11\/728<=o->w'.cell? ⟨P,o,none⟩=w.cell? ⟨P,o,none⟩
 AD:P<w.heap.size->∀o,w'.frozen? ⟨P,o,none⟩=w.frozen? ⟨P,o,none⟩
theorem PF.refl (w:World)(P B:Nat)(K:Nat->Prop):PF w w P B K:=⟨rfl,rfl,rfl,Nat.le_refl _,fun _ _ _ _=>rfl,fun _ _ _=>rfl,fun _ _=>rfl⟩
theorem PF.Ae (h:Below w.heap.size w w'):PF w w' P B K:=⟨h.os,h.tape,h.output,h.size,fun k hk _ _=>h.block k hk,fun c o _=>QEc (a:=⟨P,o,none⟩) (h.block P c),fun c o=>QDx (a:=⟨P,o,none⟩) (h.block P c)⟩
theorem PF.trans {x y z:World}(h:PF x y P B K)(g:PF y z P B K):PF x z P B K:=by
 refine⟨g.os.trans h.os,g.tape.trans h.tape,g.output.trans h.output,QBq h.size g.size,fun k hk a c=> ?_,fun a o d=>(g.off (QBu a h.size) o d).trans (h.off a o d),fun a o=>(g.AD (QBu a h.size) o).trans (h.AD a o)⟩;have e:=h.block k hk a c;refine (g.block k (QBu hk h.size) a ?_).trans e;rcases c with c | ⟨cs,t,fr,f,i⟩
 .exact Or.inl c
 .exact Or.inr ⟨cs,t,fr,e.trans f,i⟩
theorem PF.Bv (w:World)(P B:Nat)(K:Nat->Prop)(o:Nat)(v:Value)(f:11<=o/\o<728):PF w (w.setCell ⟨P,o,none⟩ v) P B K :=
 ⟨rfl,rfl,rfl,by simp[QDw],fun k _ c _=>Below.heap_setCell w ⟨P,o,none⟩ v k (by simpa using c),fun _ a d=>Zac w P o a v (by omega),fun _ a=>by rw[QEa]⟩
theorem PF.EX (h:w.grownBy w' ob)(f:some P≠ob)(n:∀z,ob=some z->B<=z/\∀cs t fr,w.heap[z]? =some (.cells cs t fr)->t=288)(m:∀z,ob=some z->¬K z):PF w w' P B K:=by
 refine⟨h.os,h.tape,h.output,h.size,fun k hk _ d=>h.block k hk (fun e=> ?_),fun c o _=>QEc (a:=⟨P,o,none⟩) (h.block P c f),fun c o=>QDx (a:=⟨P,o,none⟩) (h.block P c f)⟩;obtain⟨p,j⟩:=n k e.symm;rcases d with (d | d) | ⟨cs,t,fr,g,i⟩
 .omega
 .exact m k e.symm d
 .exact i (j cs t fr g)
theorem RE {size n:Nat}(h:w.ownsRow B e size v n xs):∀z,v.ownBlock=some z->B<=z/\∀cs t fr,w.heap[z]? =some (.cells cs t fr)->t=e:=by
 intro z a;rcases h.2 with⟨rfl,_⟩ | ⟨g,cap,cur,rfl,hg,hh,_⟩
 .simp[Value.ownBlock] at a
 .simp only[Value.ownBlock,Option.some.injEq] at a
  subst a;refine⟨hg,fun cs t fr e=> ?_⟩;rw[hh] at e;simp at e;exact e.2.1.symm
open Go.RowKit
open Go.Maps (Keyed)
theorem wideK:(match prog.underlying 288 with | some (.array _ _) | some (.struct _)=>true | _=>false)=true:=by kernel_rfl
theorem rowK:(288:TypeId)<prog.types.size:=of_decide_eq_true (by kernel_rfl)
theorem laid0:laidOutB prog=true:=by kernel_rfl
theorem Ij:Keyed prog 288:=Keyed.of_law (deep_law_laid laid0 (m:=3) (by omega) rowK (by kernel_rfl) wideK)
def Gi (id:Int):Value:=.agg (Ei id).toArray
def Cf (id:Int):Lit:=.string (keyBytes [.int .u64 (id / 64),.int .i64 (id / 4 % 16 - 1),.int .i64 (id % 4)])
theorem Uy:prog.cellsOf 288=3:=by kernel_rfl
theorem Uz:prog.cellsOf 274=2:=by kernel_rfl
theorem wfI (d: -1<=x)(f:x<15):(QDo .i64 x).wf=true:=by
 have a:IntKind.i64.min= -9223372036854775808:=by decide
 have c:IntKind.i64.max=9223372036854775807:=by decide
 simp only[Lit.wf,a,c,Bool.and_eq_true,decide_eq_true_eq];omega
theorem wf_u64 (d:0<=x)(f:x<18446744073709551616):(QDo .u64 x).wf=true:=by
 have a:IntKind.u64.min=0:=by decide
 have c:IntKind.u64.max=18446744073709551615:=by decide
 simp only[Lit.wf,a,c,Bool.and_eq_true,decide_eq_true_eq];omega
theorem keyT:prog.keyType 288=true:=by kernel_rfl
theorem cellsU:prog.cellsOf 27=1:=by kernel_rfl
theorem cellsN:prog.cellsOf 3=1:=by kernel_rfl
theorem cellsQ:prog.cellsOf 280=1:=by kernel_rfl
theorem kl_u (d:Nat)(h:(QDo .u64 x).wf=true):prog.keyLits (d+1) 27 [.int .u64 x]=some [.int .u64 x]:=by
 simp[QDs,underlying27,h]
theorem kl_n (d:Nat)(h:(QDo .i64 x).wf=true):prog.keyLits (d+1) 3 [.int .i64 x]=some [.int .i64 x]:=by
 simp[QDs,underlying3,h]
theorem kl_q (d:Nat)(h:(QDo .i64 x).wf=true):prog.keyLits (d+1) 280 [.int .i64 x]=some [.int .i64 x]:=by
 simp[QDs,underlying280,h]
theorem kl_s (d:Nat){y:Int}(h:(QDo .u64 x).wf=true)(g:(QDo .i64 y).wf=true):prog.keyLits (d+2) 274 [.int .u64 x,.int .i64 y]=some [.int .u64 x,.int .i64 y]:=by
 unfold QDs;rw[underlying274];simp only[];rw[if_pos ⟨by rw[Uz];rfl,by kernel_rfl⟩];simp[cellsU,cellsN,kl_u _ h,kl_n _ g]
theorem SZ (d:Nat)(h:FB id):prog.keyLits (d+3) 288 (Ei id)=some [.int .u64 (id / 64),.int .i64 (id / 4 % 16 - 1),.int .i64 (id % 4)]:=by
 have a:(QDo .u64 (id / 64)).wf=true:=wf_u64 (by unfold FB at h;omega) (by unfold FB at h;omega);have c:=wfI (x:=id / 4 % 16 - 1) (by omega) (by omega);have f:=wfI (x:=id % 4) (by omega) (by omega);unfold QDs;rw[underlying288];simp only[];rw[if_pos ⟨by rw[Uy];rfl,by kernel_rfl⟩];simp[Ei,Uz,cellsQ,kl_s _ a c,kl_q _ f]
theorem sizeK:prog.types.size+1=(prog.types.size - 2)+3:=by kernel_rfl
theorem Zde (h:FB id):keyOf prog 288 (Gi id)=some (Cf id):=by
 have hf:(Gi id).formed prog 288=true:=by
  simp[Value.formed,underlying288,Uy,Gi,Ei]
 have a:(Gi id).cells.toList=Ei id:=rfl;unfold keyOf;rw[underlying288];simp only[];rw[keyT,hf,a,sizeK,SZ _ h]
 rfl
theorem GQ {a b:Int}(c:FB a)(hb:FB b)(h:Cf a=Cf b):a=b:=by
 have e:=Ij.inj (Zde c) (h▸Zde hb);unfold Gi Ei at e;simp at e;omega
theorem RX (w:World):(zeroValue 27).run prog w=.ok (.int .u64 0) w:=by kernel_rfl
def u0:DataW Unit:=.lit (.int .u64 0)
structure TY (D:DataW Unit)(l:List Tm):Prop where
 size:QDq D=l.length
 tm:∀i,i<l.length->D.atKey (Cf (l.getD i .z).id) u0=.lit (.int .u64 (l.getD i .z).tm)
 has:∀id,FB id->(QDr D (Cf id)=true↔CD l id l.length)
def ED (l:List Tm):Prop:=∀i,i<l.length->FB (l.getD i .z).id
def Zbe (D:DataW Unit)(w:World)(bm n:Nat):Prop:=w.ownsMap prog 288 (plainElem prog 27) bm n D
def NB (w:World)(B:Nat)(dm:Value)(l:List Tm):Prop :=
 (dm=.map none/\l=[])\/∃bm D,dm=.map (some bm)/\B<=bm/\Zbe D w bm (QDq D)/\TY D l
theorem Zcr {P:Program}{k:TypeId}{R:Value->Option (DataW Unit×List MemPlace)}{n:Nat}(h:w.ownsMap P k R b n D):w.ownsMap P k R b (QDq D) D:=by
 obtain⟨es,clock,hb,F,a,rfl⟩:=h;exact⟨es,clock,hb,F,by simp[QDq,length_read],rfl⟩
theorem NB.kept (h:NB w B dm l)(hb:∀k es c,B<=k->w.heap[k]? =some (.map es c)->w'.heap[k]? =w.heap[k]?):NB w' B dm l:=by
 rcases h with h | ⟨a,D,g,d,⟨es,clock,f,i⟩,j⟩
 .exact Or.inl h
 .exact Or.inr ⟨a,D,g,d,⟨es,clock,(hb a es clock d f).trans f,i⟩,j⟩
theorem Yh:TY (.map []) []:=⟨rfl,fun i h=>by simp at h,fun id _=>by
 constructor
 .intro h;simp[QDr] at h
 .rintro⟨j,a,_⟩;simp at a⟩
theorem PY (l:List Tm)(t:Tm)(id:Int):CD (l++[t]) id (l++[t]).length↔CD l id l.length\/t.id=id:=by
 have hl:(l++[t]).length=l.length+1:=by simp
 constructor
 .rintro⟨j,a,e⟩
  rw[hl] at a;rw[Zdr l t j a] at e;by_cases h:j<l.length
  .rw[if_pos h] at e;exact Or.inl ⟨j,h,e⟩
  .rw[if_neg h] at e;exact Or.inr e
 .rintro (⟨j,a,e⟩ | e)
  .exact⟨j,by omega,by rw[Zdr l t j (by omega),if_pos a];exact e⟩
  .exact⟨l.length,by omega,by rw[Zdr l t l.length (by omega),if_neg (by omega)];exact e⟩
theorem SP (hb:b<l.length)(c:Bk l)(id:Int):CD (l.take b++l.drop (b+1)) id (l.take b++l.drop (b+1)).length↔CD l id l.length/\id≠(l.getD b .z).id:=by
 have hl:=Zcl l b hb;constructor
 .rintro⟨j,d,e⟩
  rw[Zc9 l b j hb] at e;refine⟨⟨_,?_,e⟩,?_⟩
  .split<;>omega
  .rintro rfl
   by_cases h:j<b
   .rw[if_pos h] at e;exact c j b h hb e
   .rw[if_neg h] at e;exact c b (j+1) (by omega) (by omega) e.symm
 .rintro⟨⟨j,d,e⟩,a⟩
  have f:j≠b:=fun h=>a (by rw[<-e,h])
  by_cases h:j<b
  .exact⟨j,by omega,by rw[Zc9 l b j hb,if_pos h];exact e⟩
  .exact⟨j - 1,by omega,by rw[Zc9 l b (j - 1) hb,if_neg (by omega),show j - 1+1=j by omega];exact e⟩
theorem Qg (id:Int):WideAt.IsKeyLit (Cf id):=trivial
theorem TY.put (h:TY D l)(k:QDp D)(t:Tm)(hn:¬CD l t.id l.length)(c:FB t.id)(f:ED l):TY (D.put (Cf t.id) (.lit (.int .u64 t.tm))) (l++[t]):=by
 have j:QDr D (Cf t.id)=false:=by
  cases e:QDr D (Cf t.id)
  .rfl
  .exact absurd ((h.has t.id c).1 e) hn
 have hk:=Qg t.id;refine⟨?_,fun i hi=> ?_,fun id d=> ?_⟩
 .rw[Maps.size_put k,j,h.size];simp
 .rw[QBa,List.length_singleton] at hi
  rw[Zdr l t i hi];by_cases a:i<l.length
  .rw[if_pos a,Maps.atKey_put_other (fun e=>hn ⟨i,a,GQ (f i a) c e⟩)]
   exact h.tm i a
  .rw[if_neg a,Maps.atKey_put_same k.isMap hk]
 .rw[PY]
  by_cases e:id=t.id
  .subst e
   rw[Maps.has_put_same k.isMap hk];simp
  .rw[Maps.has_put_other (fun m=>e (GQ d c m)),h.has id d]
   constructor
   .exact Or.inl
   .rintro (g | g)
    .exact g
    .exact absurd g.symm e
theorem TY.cut (h:TY D l)(n:QDp D)(j:Bk l)(a:ED l)(hb:b<l.length):TY (D.del (Cf (l.getD b .z).id)) (l.take b++l.drop (b+1)):=by
 have d:QDr D (Cf (l.getD b .z).id)=true:=(h.has _ (a b hb)).2 ⟨b,hb,rfl⟩;have hl:=Zcl l b hb;refine⟨?_,fun i hi=> ?_,fun id c=> ?_⟩
 .have:=Maps.size_del (k:=Cf (l.getD b .z).id) n
  rw[d,h.size,if_pos rfl] at this;omega
 .rw[Zc9 l b i hb]
  rw[Maps.atKey_del_other]
  .exact h.tm _ (by split<;>omega)
  .intro e
   have e:=GQ (a (if i<b then i else i+1) (by split<;>omega)) (a b hb) e;by_cases f:i<b
   .rw[if_pos f] at e;exact j i b f hb e
   .rw[if_neg f] at e;exact j b (i+1) (by omega) (by omega) e.symm
 .rw[SP hb j]
  by_cases e:id=(l.getD b .z).id
  .subst e;rw[Maps.has_del_same];simp
  .rw[Maps.has_del_other (fun m=>e (GQ c (a b hb) m)),h.has id c];exact⟨fun g=>⟨g,e⟩,fun g=>g.1⟩
open Go.RowKit Go.Extern.Stop Go.Stop Go.Extern
theorem Mc (t:Addr)(w:World):(ReflectliteValue.unpack (.iface 174 (.pointer (some t)))).run prog w
  =.ok (.agg #[.pointer (some ⟨4,174,none⟩),.pointer (some ⟨w.heap.size,0,none⟩),.int .u64 150]) (w.alloc (.cells #[.pointer (some t)] 174)):=by kernel_rfl
theorem Wy (a:Addr)(w:World):(ReflectliteValue.methodAny (ReflectliteValue.valueError "reflectlite.Value.Type" 0) (fun t _ _ _=>ReflectliteType.toType t) #[.agg #[.pointer (some ⟨4,174,none⟩),.pointer (some a),.int .u64 150]]).run prog w
  =.ok (.iface 340 (.agg #[.pointer (some ⟨4,174,none⟩)])) w:=by kernel_rfl
theorem Eo (h:Value)(w:World):(QDn 596 340 (.agg #[h]) "Kind").run prog w=.ok (312,h) w:=by kernel_rfl
theorem ON (w:World):((ReflectliteType.abiMethod fun t=>Functor.map (fun a:Nat=>Value.int IntKind.u8 (a:Int)) (Rtype.kind t)) #[.pointer (some ⟨4,174,none⟩)]).run prog w=.ok (.int .u8 22) w:=by kernel_rfl
theorem RI (w:World):((ReflectliteType.abiMethod fun t=>Functor.map (fun a:Nat=>Value.int IntKind.u8 (a:Int)) (Rtype.kind t)) #[.pointer (some ⟨4,172,none⟩)]).run prog w=.ok (.int .u8 22) w:=by kernel_rfl
theorem rlm (z:Sem Value)(f:TypeId->Addr->Nat->Nat->Sem Value)(v:Value) :
  ReflectliteValue.method z f #[v]=(do match <-ReflectliteValue.parts v with | none=>z | some (t,a,fl)=>f t a fl (fl % 32)):=rfl
theorem RJ (a:Addr)(w:World):(ReflectliteValue.parts (.agg #[.pointer (some ⟨4,174,none⟩),.pointer (some a),.int .u64 150])).run prog w=.ok (some (174,a,150)) w:=by kernel_rfl
theorem RH (a p:Addr)(W:World)(c:W.cell? a=some (.pointer (some p))) :
  (ReflectliteValue.method (ReflectliteValue.valueError "reflectlite.Value.IsNil" 0) ReflectliteValue.isNil #[.agg #[.pointer (some ⟨4,174,none⟩),.pointer (some a),.int .u64 150]]).run prog W=.ok (.bool false) W:=by
 rw[rlm];simp only[Sem.run_bind,RJ,QDt];simp[ReflectliteValue.isNil,loadVar,isAgg,QDm,underlying174,c,QDt]
theorem En (h:Value)(w:World):(QDn 596 340 (.agg #[h]) "Elem").run prog w=.ok (354,.agg #[h]) w:=by kernel_rfl
theorem Zcq (h:Value)(w:World):(QDn 596 340 (.agg #[h]) "Implements").run prog w=.ok (355,.agg #[h]) w:=by kernel_rfl
theorem Zb3 (h:Value)(w:World):(QDn 596 340 (.agg #[h]) "AssignableTo").run prog w=.ok (352,.agg #[h]) w:=by kernel_rfl
theorem Wu (w:World):(ReflectliteType.method ReflectliteType.elem #[.agg #[.pointer (some ⟨4,174,none⟩)]]).run prog w=.ok (.iface 340 (.agg #[.pointer (some ⟨4,172,none⟩)])) w:=by kernel_rfl
theorem Hf (w:World):(ReflectliteType.relation "Implements" ReflectliteType.implements_ #[.agg #[.pointer (some ⟨4,172,none⟩)],.iface 340 (.agg #[.pointer (some ⟨4,98,none⟩)])]).run prog w=.ok (.bool true) w:=by kernel_rfl
theorem Wz (v:Value)(w:World):(ReflectliteType.typeOf #[.iface 172 v]).run prog w=.ok (.iface 340 (.agg #[.pointer (some ⟨4,172,none⟩)])) w:=by kernel_rfl
theorem Ni (w:World):(ReflectliteType.relation "AssignableTo" ReflectliteType.assignableTo #[.agg #[.pointer (some ⟨4,172,none⟩)],.iface 340 (.agg #[.pointer (some ⟨4,172,none⟩)])]).run prog w=.ok (.bool true) w:=by kernel_rfl
theorem QI (e:Addr)(w:World):(ReflectliteValue.unpack (.iface 172 (.pointer (some e)))).run prog w
  =.ok (.agg #[.pointer (some ⟨4,172,none⟩),.pointer (some ⟨w.heap.size,0,none⟩),.int .u64 150]) (w.alloc (.cells #[.pointer (some e)] 172)):=by kernel_rfl
theorem Wv (w:World):(Rtype.elem? 174).run prog w=.ok (some 172) w:=by kernel_rfl
theorem r_mk (p:Addr)(w:World):(ReflectliteValue.mk 172 p ReflectliteValue.flagAddr).run prog w=.ok (.agg #[.pointer (some ⟨4,172,none⟩),.pointer (some p),.int .u64 406]) w:=by kernel_rfl
theorem YZ (a p:Addr)(W:World)(c:W.cell? a=some (.pointer (some p))) :
  (ReflectliteValue.method (ReflectliteValue.valueError "reflectlite.Value.Elem" 0) ReflectliteValue.elem #[.agg #[.pointer (some ⟨4,174,none⟩),.pointer (some a),.int .u64 150]]).run prog W
   =.ok (.agg #[.pointer (some ⟨4,172,none⟩),.pointer (some p),.int .u64 406]) W:=by
 rw[rlm];simp only[Sem.run_bind,RJ,QDt];simp[ReflectliteValue.elem,loadVar,isAgg,QDm,underlying174,c,QDt,Wv,r_mk]
theorem RL (v x:Value)(a:Value->Value->Sem Value)(c:Array Value->Sem Value):ReflectliteValue.set.match_3 (fun _=>Sem Value) #[v,x] a c=a v x:=rfl
theorem Ww (a:Addr)(w:World):(ReflectliteValue.parts (.agg #[.pointer (some ⟨4,172,none⟩),.pointer (some a),.int .u64 406])).run prog w=.ok (some (172,a,406)) w:=by kernel_rfl
theorem Wx (a:Addr)(w:World):(ReflectliteValue.parts (.agg #[.pointer (some ⟨4,172,none⟩),.pointer (some a),.int .u64 150])).run prog w=.ok (some (172,a,150)) w:=by kernel_rfl
theorem Wt (w:World):(Rtype.directlyAssignable 172 172).run prog w=.ok true w:=by kernel_rfl
theorem r_set (a b e:Addr)(old:Value)(W:World)(hb:W.cell? b=some (.pointer (some e)))(c:W.cell? a=some old)(hf:W.frozen? a=false) :
  (ReflectliteValue.set #[.agg #[.pointer (some ⟨4,172,none⟩),.pointer (some a),.int .u64 406],.agg #[.pointer (some ⟨4,172,none⟩),.pointer (some b),.int .u64 150]]).run prog W
   =.ok (.tuple #[]) (W.setCell a (.pointer (some e))):=by
 delta ReflectliteValue.set
 rw[RL];simp only[Sem.run_bind,Ww,Wx,QDt];simp[ReflectliteValue.flagAddr,loadVar,isAgg,QDm,underlying172,hb,QDt,Wt,storeVar,Value.cells,storeCells,Addr.add];rw[run_store prog W a _ _ (by rfl)];simp[c,hf]
def asW (w:World)(e t:Addr):World :=
 ((((w.alloc (.cells #[.pointer (some t)] 174)).alloc (.cells #[.pointer (some ⟨4,174,none⟩),.pointer (some ⟨w.heap.size,0,none⟩),.int .u64 150] 246)).alloc (.cells #[.pointer (some ⟨4,174,none⟩),.pointer (some ⟨w.heap.size,0,none⟩),.int .u64 150] 246)).alloc (.cells #[.pointer (some e)] 172)).setCell t (.pointer (some e))
theorem as_hit (e t:Addr)(old:Value)(w:World)(hg:w.cell? ⟨0,0,none⟩=some (.iface 340 (.agg #[.pointer (some ⟨4,98,none⟩)])))(a:w.cell? t=some old)(d:w.frozen? t=false) :
  Calls prog 83 #[.iface 172 (.pointer (some e)),.iface 174 (.pointer (some t))] w fun j w'=>j=.returned (.bool true)/\w'=asW w e t:=by
 have A:=@run_callFunc_extern prog 132 _ (fun args=>ReflectliteValue.unpack (args.getD 0 (.tuple #[]))) func132 (by kernel_rfl) (by kernel_rfl) (by kernel_rfl) (by kernel_rfl);have C:=@run_callFunc_extern prog 133 _ (ReflectliteValue.methodAny (ReflectliteValue.valueError "reflectlite.Value.Type" 0) (fun t _ _ _=>ReflectliteType.toType t)) func133 (by kernel_rfl) (by kernel_rfl) (by kernel_rfl) (by kernel_rfl);have E:=@run_callFunc_extern prog 134 _ (ReflectliteValue.method (ReflectliteValue.valueError "reflectlite.Value.IsNil" 0) ReflectliteValue.isNil) func134 (by kernel_rfl) (by kernel_rfl) (by kernel_rfl) (by kernel_rfl);have o:=@run_callFunc_extern prog 312 _ (ReflectliteType.abiMethod fun t=>do pure (.int .u8 (<-Rtype.kind t))) func312 (by kernel_rfl) (by kernel_rfl) (by kernel_rfl) (by kernel_rfl);have q:=@run_callFunc_extern prog 354 _ (ReflectliteType.method ReflectliteType.elem) func354 (by kernel_rfl) (by kernel_rfl) (by kernel_rfl) (by kernel_rfl);have r:=@run_callFunc_extern prog 355 _ (ReflectliteType.relation "Implements" ReflectliteType.implements_) func355 (by kernel_rfl) (by kernel_rfl) (by kernel_rfl) (by kernel_rfl);have k:=@run_callFunc_extern prog 136 _ ReflectliteType.typeOf func136 (by kernel_rfl) (by kernel_rfl) (by kernel_rfl) (by kernel_rfl);have p:=@run_callFunc_extern prog 352 _ (ReflectliteType.relation "AssignableTo" ReflectliteType.assignableTo) func352 (by kernel_rfl) (by kernel_rfl) (by kernel_rfl) (by kernel_rfl);have m:=@run_callFunc_extern prog 205 _ (ReflectliteValue.method (ReflectliteValue.valueError "reflectlite.Value.Elem" 0) ReflectliteValue.elem) func205 (by kernel_rfl) (by kernel_rfl) (by kernel_rfl) (by kernel_rfl);have n:=@run_callFunc_extern prog 206 _ ReflectliteValue.set func206 (by kernel_rfl) (by kernel_rfl) (by kernel_rfl) (by kernel_rfl);have J:=Wz;have F:=Zb3;have g:=Ni;have z:=QI;have f6:=Mc;have f7:=Wy;have I:=Eo;have G:=En;have H:=Zcq;have y:=ON;have u:=RI;have i:=Wu;have i25:=Hf;have n8:=RH ⟨w.heap.size,0,none⟩ t ((w.alloc (.cells #[.pointer (some t)] 174)).alloc (.cells #[.pointer (some ⟨4,174,none⟩),.pointer (some ⟨w.heap.size,0,none⟩),.int .u64 150] 246)) (by simp);have f:0<w.heap.size:=QDv _ _ hg
 have s:((w.alloc (.cells #[.pointer (some t)] 174)).alloc (.cells #[.pointer (some ⟨4,174,none⟩),.pointer (some ⟨w.heap.size,0,none⟩),.int .u64 150] 246)).cell? ⟨0,0,none⟩=some (.iface 340 (.agg #[.pointer (some ⟨4,98,none⟩)])):=by
  rw[QEb _ _ ⟨0,0,none⟩ (by simp<;>omega),QEb _ _ ⟨0,0,none⟩ f];exact hg
 have c:t.block<w.heap.size:=QDv _ _ a;have el:=YZ ⟨w.heap.size,0,none⟩ t (((w.alloc (.cells #[.pointer (some t)] 174)).alloc (.cells #[.pointer (some ⟨4,174,none⟩),.pointer (some ⟨w.heap.size,0,none⟩),.int .u64 150] 246)).alloc (.cells #[.pointer (some ⟨4,174,none⟩),.pointer (some ⟨w.heap.size,0,none⟩),.int .u64 150] 246)) (by rw[QEb _ _ ⟨w.heap.size,0,none⟩ (by simp;omega)];simp)
 have st:=r_set t ⟨w.heap.size+1+1+1,0,none⟩ e old ((((w.alloc (.cells #[.pointer (some t)] 174)).alloc (.cells #[.pointer (some ⟨4,174,none⟩),.pointer (some ⟨w.heap.size,0,none⟩),.int .u64 150] 246)).alloc (.cells #[.pointer (some ⟨4,174,none⟩),.pointer (some ⟨w.heap.size,0,none⟩),.int .u64 150] 246)).alloc (.cells #[.pointer (some e)] 172))
  (by rw[World.cell?_alloc_at _ _ _ _ (by simp)];rfl)
  (by rw[QEb _ _ t (by simp;omega),QEb _ _ t (by simp;omega),QEb _ _ t (by simp;omega),QEb _ _ t c];exact a)
  (by rw[QDy _ _ t (by simp;omega),QDy _ _ t (by simp;omega),QDy _ _ t (by simp;omega),QDy _ _ t (Nat.ne_of_lt c)];exact d)
 go_enter func83,ntmps83
 go_wp2
 refine wp_loop_rounds 1 ?_;rw[rounds_succ]
 go_wp2
 go_ret
 exact⟨rfl,rfl⟩
theorem Hh (v:Value)(w:World):(Extern.ReflectliteType.typeOf #[.iface 32 v]).run prog w=.ok (.iface 340 (.agg #[.pointer (some ⟨4,32,none⟩)])) w:=by kernel_rfl
theorem Zdw (v:Value)(w:World):(QDn 596 340 v "Comparable").run prog w=.ok (353,v) w:=by kernel_rfl
theorem s_noIs (v:Value)(a:TypeId)(w:World):(Instr.typeAssert (.iface 172 v) a 351 true).run prog w=.ok (.tuple #[.nilIface,.bool false]) w:=run_typeAssert_lacksB underlying351 (by kernel_rfl) (by kernel_rfl) v a w
theorem OT (v:Value)(a:TypeId)(w:World):(Instr.typeAssert (.iface 172 v) a 347 true).run prog w=.ok (.tuple #[.iface 172 v,.bool true]) w:=run_typeAssert_hasB underlying347 (by kernel_rfl) v a w
theorem KD (v:Value)(w:World):(QDn 596 172 v "Unwrap").run prog w=.ok (347,v) w:=by kernel_rfl
