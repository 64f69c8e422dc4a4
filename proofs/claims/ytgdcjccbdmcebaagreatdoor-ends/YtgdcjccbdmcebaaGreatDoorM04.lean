import Derived.Test.YtgdcjccbdmcebaaGreatDoorM02
import Derived.Test.YtgdcjccbdmcebaaGreatDoorM03
import Derived.Maps.OwnSet
import Derived.DeepKeys4
set_option linter.unusedSimpArgs false
set_option linter.unusedVariables false
set_option maxRecDepth 100000
namespace Go.Proofs.YtgdcjccbdmcebaaGreatDoor
open Tryz
open Go.RowKit
variable {K:Nat->Prop}{ls:Nat->List Int}{Bz:Nat->Value}{w w':World}{wd:Nat->Nat}{dm v:Value}{B P b:Nat}{l:List Tm}{D:DataW Unit}{x id:Int}{xs:List Value}{e:TypeId}{ob:Option Nat}
def BJ {α:Type}(f:Nat->α)(k:Nat)(v:α):Nat->α:=fun j=>if j=k then v else f j
theorem Zbf {α:Type}(f:Nat->α)(k:Nat)(v:α):BJ f k v k=v:=by unfold BJ;rw[if_pos rfl]
theorem Za3 {α:Type}(f:Nat->α)(k:Nat)(v:α){j:Nat}(h:j≠k):BJ f k v j=f j:=by unfold BJ;rw[if_neg h]
def Eg (id:Int):List Value:=[.int .u64 (id / 64), .int .i64 (id / 4 % 16 - 1), .int .i64 (id % 4)]
theorem Zc3 {r nd q:Int}(h:BM r nd q id):Eg id=[.int .u64 r, .int .i64 nd, .int .i64 q]:=by
 obtain⟨a,c,d⟩:=h.parts;unfold Eg;rw[a,c,d]
theorem Zd0 (id:Int):(Eg id).length=3:=rfl
def Cg (l:List Int):List Value:=l.flatMap Eg
theorem Zdl (l:List Int):(Cg l).length=l.length * 3:=by
 induction l with
 | nil=>rfl
 | cons a l c=>unfold Cg at *;rw[List.flatMap_cons,ZX,c,Zd0,List.length_cons];omega
theorem EP (a b:List Int):Cg (a++b)=Cg a++Cg b:=by simp[Cg]
theorem Ef (l:List Int){i j:Nat}(hi:i<l.length)(d:j<3):(Cg l)[i * 3+j]? =(Eg (l.getD i 0))[j]? :=by
 induction l generalizing i with
 | nil=>simp at hi
 | cons a l c =>
  unfold Cg at *;rw[List.flatMap_cons]
  cases i with
  | zero=>rw[List.getElem?_append_left (by rw[Zd0];omega)];simp
  | succ i =>
   rw[List.getElem?_append_right (by rw[Zd0];omega),Zd0,show (i+1) * 3+j - 3=i * 3+j by omega,c (by simpa using hi)];simp
structure Bu (w:World)(P B:Nat)(K:Nat->Prop)(now:Nat)(dm:Value)(Bz:Nat->Value)(ls:Nat->List Int)(wd:Nat->Nat):Prop where
 c0:w.cell? ⟨P,11,none⟩=some (.int .u64 now)
 c1:w.cell? ⟨P,12,none⟩=some dm
 cs:∀k,k<704->w.cell? ⟨P,13+k,none⟩=some (Bz k)
 cw:∀k,k<11->w.cell? ⟨P,717+k,none⟩=some (.int .u64 (wd k))
 fz:∀o,w.frozen? ⟨P,o,none⟩=false
 own:∀k,k<704->w.ownsRow B 288 3 (Bz k) (ls k).length (Cg (ls k))
 apart:∀j k,j<704->k<704->j≠k->∀z,(Bz j).ownBlock=some z->(Bz k).ownBlock≠some z
 pb:P<B
 bs:B<=w.heap.size
 sp:∀k,k<704->∀z,(Bz k).ownBlock=some z->¬K z
 kb:∀z,K z->B<=z/\∃cs fr,w.heap[z]? =some (.cells cs 288 fr)
theorem MI (h:∀z,K z->B<=z/\∃cs fr,w.heap[z]? =some (.cells cs 288 fr))(f:P<B)(o:Nat)(v:Value):∀z,K z->B<=z/\∃cs fr,(w.setCell ⟨P,o,none⟩ v).heap[z]? =some (.cells cs 288 fr):=fun z d=>by
 obtain⟨a,cs,fr,c⟩:=h z d;exact⟨a,cs,fr,by rw[Zl w ⟨P,o,none⟩ v z (by show z≠P;omega)];exact c⟩
theorem Ha {size n:Nat}(h:w.ownsRow B e size v n xs)(d:∀k,B<=k->(∃cs fr,w.heap[k]? =some (.cells cs e fr))->v.ownBlock=some k->w'.heap[k]? =w.heap[k]?):w'.ownsRow B e size v n xs:=by
 obtain⟨c,a⟩:=h;refine⟨c,?_⟩;rcases a with a | ⟨g,cap,cur,rfl,hg,hh,f⟩
 ·exact Zu a
 ·exact Zj ⟨g,cap,cur,rfl,hg,by rw[d g hg ⟨_,_,hh⟩ rfl];exact hh,f⟩
theorem Bu.keepK {now:Nat}(h:Bu w P B K now dm Bz ls wd)(i:w.heap.size<=w'.heap.size)(d:w'.heap[P]? =w.heap[P]?)(g:∀k,B<=k->(∃cs fr,w.heap[k]? =some (.cells cs 288 fr))->w'.heap[k]? =w.heap[k]?):Bu w' P B K now dm Bz ls wd :=
 ⟨(World.cell?_of_block (a:=⟨P,11,none⟩) d).trans h.c0,(World.cell?_of_block (a:=⟨P,12,none⟩) d).trans h.c1,fun k f=>(World.cell?_of_block (a:=⟨P,13+k,none⟩) d).trans (h.cs k f),fun k f=>(World.cell?_of_block (a:=⟨P,717+k,none⟩) d).trans (h.cw k f),fun o=>(World.frozen?_of_block (a:=⟨P,o,none⟩) d).trans (h.fz o),fun k f=>Ha (h.own k f) (fun z c he _=>g z c he),h.apart,h.pb,Zv h.bs i,h.sp,fun z c=>⟨(h.kb z c).1,(h.kb z c).2.choose,(h.kb z c).2.choose_spec.choose,(g z (h.kb z c).1 (h.kb z c).2).trans (h.kb z c).2.choose_spec.choose_spec⟩⟩
theorem Bu.Aj {now:Nat}(h:Bu w P B K now dm Bz ls wd)(a:Below w.heap.size w w'):Bu w' P B K now dm Bz ls wd:=by
 refine h.keepK a.size (a.block P (Zy h.pb h.bs)) (fun k _ he=>a.block k ?_);obtain⟨cs,fr,e⟩:=he;exact (Array.getElem?_eq_some_iff.1 e).1
theorem Bu.KJ {now:Nat}(h:Bu w P B K now dm Bz ls wd)(u:Nat):Bu (w.setCell ⟨P,11,none⟩ (.int .u64 u)) P B K u dm Bz ls wd :=
 ⟨World.cell?_setCell_same _ _ _ h.c0,(Zac w P 11 12 _ (by decide)).trans h.c1,fun k a=>(Zac w P 11 (13+k) _ (by omega)).trans (h.cs k a),fun k a=>(Zac w P 11 (717+k) _ (by omega)).trans (h.cw k a),fun o=>by rw[World.frozen?_setCell];exact h.fz o,fun k a=>ownsRow_setCell_below (h.own k a) h.pb _,h.apart,h.pb,by simpa[World.setCell] using h.bs,h.sp,MI h.kb h.pb _ _⟩
theorem Bu.setDue {now:Nat}(h:Bu w P B K now dm Bz ls wd)(u:Value):Bu (w.setCell ⟨P,12,none⟩ u) P B K now u Bz ls wd :=
 ⟨(Zac w P 12 11 _ (by decide)).trans h.c0,World.cell?_setCell_same _ _ _ h.c1,fun k a=>(Zac w P 12 (13+k) _ (by omega)).trans (h.cs k a),fun k a=>(Zac w P 12 (717+k) _ (by omega)).trans (h.cw k a),fun o=>by rw[World.frozen?_setCell];exact h.fz o,fun k a=>ownsRow_setCell_below (h.own k a) h.pb _,h.apart,h.pb,by simpa[World.setCell] using h.bs,h.sp,MI h.kb h.pb _ _⟩
theorem Bu.No {now:Nat}(h:Bu w P B K now dm Bz ls wd)(L x:Nat)(c:L<11):Bu (w.setCell ⟨P,717+L,none⟩ (.int .u64 x)) P B K now dm Bz ls (BJ wd L x):=by
 refine⟨(Zac w P (717+L) 11 _ (by omega)).trans h.c0,(Zac w P (717+L) 12 _ (by omega)).trans h.c1,fun k a=>(Zac w P (717+L) (13+k) _ (by omega)).trans (h.cs k a),fun k a=> ?_,fun o=>by rw[World.frozen?_setCell];exact h.fz o,fun k a=>ownsRow_setCell_below (h.own k a) h.pb _,h.apart,h.pb,by simpa[World.setCell] using h.bs,h.sp,MI h.kb h.pb _ _⟩;by_cases e:k=L
 ·subst e;rw[Zbf];exact World.cell?_setCell_same _ _ _ (h.cw k a)
 ·rw[Za3 _ _ _ e];exact (Zac w P (717+L) (717+k) _ (by omega)).trans (h.cw k a)
theorem Bu.slot {w7:World}{now:Nat}(h:Bu w P B K now dm Bz ls wd){k:Nat}(q:k<704){v':Value}{xs:List Int}{n':Nat}(hn:n'=xs.length)(E:w.heap.size<=w7.heap.size)(y:∀j,j<w.heap.size->some j≠(Bz k).ownBlock->w7.heap[j]? =w.heap[j]?)(r:w7.ownsRow B 288 3 v' n' (Cg xs))(n:∀z,v'.ownBlock=some z->(Bz k).ownBlock=some z\/w.heap.size<=z) :
  Bu (w7.setCell ⟨P,13+k,none⟩ v') P B K now dm (BJ Bz k v') (BJ ls k xs) wd:=by
 subst hn;have u:P<w.heap.size:=Zy h.pb h.bs
 have f:w7.heap[P]? =w.heap[P]? :=y P u fun e=>by
  have:=((h.own k q).lt P e.symm).1;have:=h.pb;omega
 refine⟨(Zac w7 P (13+k) 11 _ (by omega)).trans ((World.cell?_of_block (a:=⟨P,11,none⟩) f).trans h.c0),(Zac w7 P (13+k) 12 _ (by omega)).trans ((World.cell?_of_block (a:=⟨P,12,none⟩) f).trans h.c1),fun j d=> ?_,fun j d=>(Zac w7 P (13+k) (717+j) _ (by omega)).trans ((World.cell?_of_block (a:=⟨P,717+j,none⟩) f).trans (h.cw j d)),fun o=>by rw[World.frozen?_setCell];exact (World.frozen?_of_block (a:=⟨P,o,none⟩) f).trans (h.fz o),fun j d=> ?_,fun i j hi d p z c=> ?_,h.pb,by have:=h.bs;simp[World.setCell];omega,fun j d z c=> ?_,fun z c=> ?_⟩
 ·by_cases e:j=k
  ·subst e;rw[Zbf];exact World.cell?_setCell_same _ _ _ ((World.cell?_of_block (a:=⟨P,13+j,none⟩) f).trans (h.cs j d))
  ·rw[Za3 _ _ _ e];exact (Zac w7 P (13+k) (13+j) _ (by omega)).trans ((World.cell?_of_block (a:=⟨P,13+j,none⟩) f).trans (h.cs j d))
 ·by_cases e:j=k
  ·subst e;rw[Zbf,Zbf];exact ownsRow_setCell_below r h.pb _
  ·rw[Za3 _ _ _ e,Za3 _ _ _ e]
   refine ownsRow_setCell_below (Ha (h.own j d) (fun z _ he c=> ?_)) h.pb _;refine y z ?_ (fun g=>h.apart j k d q e z c g.symm);obtain⟨cs,fr,m⟩:=he;exact (Array.getElem?_eq_some_iff.1 m).1
 ·by_cases t:i=k
  ·subst t
   rw[Zbf] at c;rw[Za3 _ _ _ (Ne.symm p)];rcases n z c with g | g
   ·exact fun m=>h.apart j i d q (Ne.symm p) z m g
   ·exact fun m=>by have:=((h.own j d).lt z m).2;omega
  ·rw[Za3 _ _ _ t] at c
   by_cases g:j=k
   ·subst g
    rw[Zbf];intro m;rcases n z m with A | A
    ·exact h.apart i j hi q t z c A
    ·have:=((h.own i hi).lt z c).2;omega
   ·rw[Za3 _ _ _ g];exact h.apart i j hi d p z c
 ·by_cases e:j=k
  ·subst e
   rw[Zbf] at c;rcases n z c with g | g
   ·exact h.sp j d z g
   ·exact fun x=>by obtain⟨_,cs,fr,s⟩:=h.kb z x;have:=(Array.getElem?_eq_some_iff.1 s).1;omega
  ·rw[Za3 _ _ _ e] at c
   exact h.sp j d z c
 ·obtain⟨C,cs,fr,s⟩:=h.kb z c
  refine⟨C,cs,fr,?_⟩;rw[Zl w7 ⟨P,13+k,none⟩ _ z (by show z≠P;have:=h.pb;omega),y z (Array.getElem?_eq_some_iff.1 s).1 (fun e=>h.sp k q z e.symm c)];exact s
structure PF (w w':World)(P B:Nat)(K:Nat->Prop):Prop where
 os:w'.os=w.os
 tape:w'.tape=w.tape
 output:w'.output=w.output
 size:w.heap.size<=w'.heap.size
 block:∀k,k<w.heap.size->k≠P->((k<B\/K k)\/∃cs t fr,w.heap[k]? =some (.cells cs t fr)/\t≠288)->w'.heap[k]? =w.heap[k]?
 off:P<w.heap.size->∀o,o<11\/728<=o->w'.cell? ⟨P,o,none⟩=w.cell? ⟨P,o,none⟩
 AE:P<w.heap.size->∀o,w'.frozen? ⟨P,o,none⟩=w.frozen? ⟨P,o,none⟩
theorem PF.refl (w:World)(P B:Nat)(K:Nat->Prop):PF w w P B K:=⟨rfl,rfl,rfl,Zx _,fun _ _ _ _=>rfl,fun _ _ _=>rfl,fun _ _=>rfl⟩
theorem PF.Ae (h:Below w.heap.size w w'):PF w w' P B K:=⟨h.os,h.tape,h.output,h.size,fun k d _ _=>h.block k d,fun c o _=>World.cell?_of_block (a:=⟨P,o,none⟩) (h.block P c),fun c o=>World.frozen?_of_block (a:=⟨P,o,none⟩) (h.block P c)⟩
theorem PF.trans {x y z:World}(h:PF x y P B K)(g:PF y z P B K):PF x z P B K:=by
 refine⟨g.os.trans h.os,g.tape.trans h.tape,g.output.trans h.output,Zv h.size g.size,fun k d a c=> ?_,fun a o f=>(g.off (Zy a h.size) o f).trans (h.off a o f),fun a o=>(g.AE (Zy a h.size) o).trans (h.AE a o)⟩;have e:=h.block k d a c;refine (g.block k (Zy d h.size) a ?_).trans e;rcases c with c | ⟨cs,t,fr,i,j⟩
 ·exact Zu c
 ·exact Zj ⟨cs,t,fr,e.trans i,j⟩
theorem PF.Bt (w:World)(P B:Nat)(K:Nat->Prop)(o:Nat)(v:Value)(f:11<=o/\o<728):PF w (w.setCell ⟨P,o,none⟩ v) P B K :=
 ⟨rfl,rfl,rfl,by simp[World.setCell],fun k _ c _=>Zl w ⟨P,o,none⟩ v k (by simpa using c),fun _ a d=>Zac w P o a v (by omega),fun _ a=>by rw[World.frozen?_setCell]⟩
theorem PF.EY (h:w.grownBy w' ob)(f:some P≠ob)(p:∀z,ob=some z->B<=z/\∀cs t fr,w.heap[z]? =some (.cells cs t fr)->t=288)(m:∀z,ob=some z->¬K z):PF w w' P B K:=by
 refine⟨h.os,h.tape,h.output,h.size,fun k n _ d=>h.block k n (fun e=> ?_),fun c o _=>World.cell?_of_block (a:=⟨P,o,none⟩) (h.block P c f),fun c o=>World.frozen?_of_block (a:=⟨P,o,none⟩) (h.block P c f)⟩;obtain⟨q,j⟩:=p k e.symm;rcases d with (d | d) | ⟨cs,t,fr,g,i⟩
 ·omega
 ·exact m k e.symm d
 ·exact i (j cs t fr g)
theorem RQ {size n:Nat}(h:w.ownsRow B e size v n xs):∀z,v.ownBlock=some z->B<=z/\∀cs t fr,w.heap[z]? =some (.cells cs t fr)->t=e:=by
 intro z a;rcases h.2 with⟨rfl,_⟩ | ⟨g,cap,cur,rfl,hg,hh,_⟩
 ·simp[Value.ownBlock] at a
 ·simp only[Value.ownBlock,Option.some.injEq] at a
  subst a;refine⟨hg,fun cs t fr e=> ?_⟩;rw[hh] at e;simp at e;exact e.2.1.symm
open Go.RowKit
open Go.Maps (Keyed)
theorem wideK:(match prog.underlying 288 with | some (.array _ _) | some (.struct _)=>true | _=>false)=true:=by kernel_rfl
theorem rowK:(288:TypeId)<prog.types.size:=of_decide_eq_true (by kernel_rfl)
theorem laid0:laidOutB prog=true:=by kernel_rfl
theorem Ih:Keyed prog 288:=Keyed.of_law (deep_law_laid laid0 (m:=3) (by omega) rowK (by kernel_rfl) wideK)
def Gj (id:Int):Value:= .agg (Eg id).toArray
def Ch (id:Int):Lit:= .string (keyBytes [.int .u64 (id / 64), .int .i64 (id / 4 % 16 - 1), .int .i64 (id % 4)])
theorem UG:prog.cellsOf 288=3:=by kernel_rfl
theorem UH:prog.cellsOf 274=2:=by kernel_rfl
theorem wfI (d: -1<=x)(f:x<15):(Lit.int .i64 x).wf=true:=by
 have a:IntKind.i64.min= -9223372036854775808:=by decide
 have c:IntKind.i64.max=9223372036854775807:=by decide
 simp only[Lit.wf,a,c,Bool.and_eq_true,decide_eq_true_eq];omega
theorem wf_u64 (d:0<=x)(f:x<18446744073709551616):(Lit.int .u64 x).wf=true:=by
 have a:IntKind.u64.min=0:=by decide
 have c:IntKind.u64.max=18446744073709551615:=by decide
 simp only[Lit.wf,a,c,Bool.and_eq_true,decide_eq_true_eq];omega
theorem keyT:prog.keyType 288=true:=by kernel_rfl
theorem cellsU:prog.cellsOf 27=1:=by kernel_rfl
theorem cellsN:prog.cellsOf 3=1:=by kernel_rfl
theorem cellsQ:prog.cellsOf 280=1:=by kernel_rfl
theorem kl_u (d:Nat)(h:(Lit.int .u64 x).wf=true):prog.keyLits (d+1) 27 [.int .u64 x]=some [.int .u64 x]:=by
 simp[Program.keyLits,underlying27,h]
theorem kl_n (d:Nat)(h:(Lit.int .i64 x).wf=true):prog.keyLits (d+1) 3 [.int .i64 x]=some [.int .i64 x]:=by
 simp[Program.keyLits,underlying3,h]
theorem kl_q (d:Nat)(h:(Lit.int .i64 x).wf=true):prog.keyLits (d+1) 280 [.int .i64 x]=some [.int .i64 x]:=by
 simp[Program.keyLits,underlying280,h]
theorem kl_s (d:Nat){y:Int}(h:(Lit.int .u64 x).wf=true)(g:(Lit.int .i64 y).wf=true):prog.keyLits (d+2) 274 [.int .u64 x, .int .i64 y]=some [.int .u64 x, .int .i64 y]:=by
 unfold Program.keyLits;rw[underlying274];simp only[];rw[if_pos ⟨by rw[UH];rfl,by kernel_rfl⟩];simp[cellsU,cellsN,kl_u _ h,kl_n _ g]
theorem Tj (d:Nat)(h:FF id):prog.keyLits (d+3) 288 (Eg id)=some [.int .u64 (id / 64), .int .i64 (id / 4 % 16 - 1), .int .i64 (id % 4)]:=by
 have a:(Lit.int .u64 (id / 64)).wf=true:=wf_u64 (by unfold FF at h;omega) (by unfold FF at h;omega);have c:=wfI (x:=id / 4 % 16 - 1) (by omega) (by omega);have f:=wfI (x:=id % 4) (by omega) (by omega);unfold Program.keyLits;rw[underlying288];simp only[];rw[if_pos ⟨by rw[UG];rfl,by kernel_rfl⟩];simp[Eg,UH,cellsQ,kl_s _ a c,kl_q _ f]
theorem sizeK:prog.types.size+1=(prog.types.size - 2)+3:=by kernel_rfl
theorem Zdc (h:FF id):keyOf prog 288 (Gj id)=some (Ch id):=by
 have hf:(Gj id).formed prog 288=true:=by
  simp[Value.formed,underlying288,UG,Gj,Eg]
 have a:(Gj id).cells.toList=Eg id:=rfl;unfold keyOf;rw[underlying288];simp only[];rw[keyT,hf,a,sizeK,Tj _ h]
 rfl
theorem GP {a b:Int}(c:FF a)(d:FF b)(h:Ch a=Ch b):a=b:=by
 have e:=Ih.inj (Zdc c) (h▸Zdc d);unfold Gj Eg at e;simp at e;omega
theorem Sj (w:World):(zeroValue 27).run prog w= .ok (.int .u64 0) w:=by kernel_rfl
def u0:DataW Unit:= .lit (.int .u64 0)
structure Ug (D:DataW Unit)(l:List Tm):Prop where
 size:Maps.size D=l.length
 tm:∀i,i<l.length->D.atKey (Ch (l.getD i .z).id) u0= .lit (.int .u64 (l.getD i .z).tm)
 has:∀id,FF id->(Maps.has D (Ch id)=true↔CC l id l.length)
def EC (l:List Tm):Prop:=∀i,i<l.length->FF (l.getD i .z).id
def Zbd (D:DataW Unit)(w:World)(bm n:Nat):Prop:=w.ownsMap prog 288 (plainElem prog 27) bm n D
def NK (w:World)(B:Nat)(dm:Value)(l:List Tm):Prop :=
 (dm= .map none/\l=[])\/∃bm D,dm= .map (some bm)/\B<=bm/\Zbd D w bm (Maps.size D)/\Ug D l
theorem Zcq {P:Program}{k:TypeId}{R:Value->Option (DataW Unit×List MemPlace)}{n:Nat}(h:w.ownsMap P k R b n D):w.ownsMap P k R b (Maps.size D) D:=by
 obtain⟨es,clock,a,F,c,rfl⟩:=h;exact⟨es,clock,a,F,by simp[Maps.size,length_read],rfl⟩
theorem NK.kept (h:NK w B dm l)(m:∀k es c,B<=k->w.heap[k]? =some (.map es c)->w'.heap[k]? =w.heap[k]?):NK w' B dm l:=by
 rcases h with h | ⟨a,D,g,d,⟨es,clock,f,i⟩,j⟩
 ·exact Zu h
 ·exact Zj ⟨a,D,g,d,⟨es,clock,(m a es clock d f).trans f,i⟩,j⟩
theorem Yv:Ug (.map []) []:=⟨rfl,fun i h=>by simp at h,fun id _=>by
 constructor
 ·intro h;simp[Maps.has] at h
 ·rintro⟨j,a,_⟩;simp at a⟩
theorem Qg (l:List Tm)(t:Tm)(id:Int):CC (l++[t]) id (l++[t]).length↔CC l id l.length\/t.id=id:=by
 have hl:(l++[t]).length=l.length+1:=by simp
 constructor
 ·rintro⟨j,a,e⟩
  rw[hl] at a;rw[Zdn l t j a] at e;by_cases h:j<l.length
  ·rw[if_pos h] at e;exact Zu ⟨j,h,e⟩
  ·rw[if_neg h] at e;exact Zj e
 ·rintro (⟨j,a,e⟩ | e)
  ·exact⟨j,by omega,by rw[Zdn l t j (by omega),if_pos a];exact e⟩
  ·exact⟨l.length,by omega,by rw[Zdn l t l.length (by omega),if_neg (by omega)];exact e⟩
theorem SY (a:b<l.length)(d:Bj l)(id:Int):CC (l.take b++l.drop (b+1)) id (l.take b++l.drop (b+1)).length↔CC l id l.length/\id≠(l.getD b .z).id:=by
 have hl:=Zcl l b a;constructor
 ·rintro⟨j,f,e⟩
  rw[Zc8 l b j a] at e;refine⟨⟨_,?_,e⟩,?_⟩
  ·split<;>omega
  ·rintro rfl
   by_cases h:j<b
   ·rw[if_pos h] at e;exact d j b h a e
   ·rw[if_neg h] at e;exact d b (j+1) (by omega) (by omega) e.symm
 ·rintro⟨⟨j,f,e⟩,c⟩
  have g:j≠b:=fun h=>c (by rw[<-e,h])
  by_cases h:j<b
  ·exact⟨j,by omega,by rw[Zc8 l b j a,if_pos h];exact e⟩
  ·exact⟨j - 1,by omega,by rw[Zc8 l b (j - 1) a,if_neg (by omega),show j - 1+1=j by omega];exact e⟩
theorem Qm (id:Int):WideAt.IsKeyLit (Ch id):=trivial
theorem Ug.put (h:Ug D l)(k:Maps.Tidy D)(t:Tm)(hn:¬CC l t.id l.length)(c:FF t.id)(f:EC l):Ug (D.put (Ch t.id) (.lit (.int .u64 t.tm))) (l++[t]):=by
 have j:Maps.has D (Ch t.id)=false:=by
  cases e:Maps.has D (Ch t.id)
  ·rfl
  ·exact absurd ((h.has t.id c).1 e) hn
 have m:=Qm t.id;refine⟨?_,fun i hi=> ?_,fun id d=> ?_⟩
 ·rw[Maps.size_put k,j,h.size];simp
 ·rw[ZX,List.length_singleton] at hi
  rw[Zdn l t i hi];by_cases a:i<l.length
  ·rw[if_pos a,Maps.atKey_put_other (fun e=>hn ⟨i,a,GP (f i a) c e⟩)]
   exact h.tm i a
  ·rw[if_neg a,Maps.atKey_put_same k.isMap m]
 ·rw[Qg]
  by_cases e:id=t.id
  ·subst e
   rw[Maps.has_put_same k.isMap m];simp
  ·rw[Maps.has_put_other (fun n=>e (GP d c n)),h.has id d]
   constructor
   ·exact Zu
   ·rintro (g | g)
    ·exact g
    ·exact absurd g.symm e
theorem Ug.cut (h:Ug D l)(o:Maps.Tidy D)(m:Bj l)(a:EC l)(c:b<l.length):Ug (D.del (Ch (l.getD b .z).id)) (l.take b++l.drop (b+1)):=by
 have f:Maps.has D (Ch (l.getD b .z).id)=true:=(h.has _ (a b c)).2 ⟨b,c,rfl⟩;have hl:=Zcl l b c;refine⟨?_,fun i hi=> ?_,fun id d=> ?_⟩
 ·have:=Maps.size_del (k:=Ch (l.getD b .z).id) o
  rw[f,h.size,if_pos rfl] at this;omega
 ·rw[Zc8 l b i c]
  rw[Maps.atKey_del_other]
  ·exact h.tm _ (by split<;>omega)
  ·intro e
   have e:=GP (a (if i<b then i else i+1) (by split<;>omega)) (a b c) e;by_cases g:i<b
   ·rw[if_pos g] at e;exact m i b g c e
   ·rw[if_neg g] at e;exact m b (i+1) (by omega) (by omega) e.symm
 ·rw[SY c m]
  by_cases e:id=(l.getD b .z).id
  ·subst e;rw[Maps.has_del_same];simp
  ·rw[Maps.has_del_other (fun n=>e (GP d (a b c) n)),h.has id d];exact⟨fun j=>⟨j,e⟩,fun j=>j.1⟩
end Go.Proofs.YtgdcjccbdmcebaaGreatDoor
